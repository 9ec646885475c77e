package sign_test

import (
	"bytes"
	"crypto/ed25519"
	"crypto/sha512"
	"encoding/hex"
	"math/big"
	"math/rand"
	"slices"
	"testing"

	"fardel/edwards"
	"fardel/scalar"
	"fardel/sign"
)

// order is the base point's, by the library's own numbers.
var order = numberOf(scalar.Order())

func power(n uint) *big.Int { return new(big.Int).Lsh(big.NewInt(1), n) }

// bytesOf is a number below 2^256, the lowest byte first.
func bytesOf(n *big.Int) [32]byte {
	var b [32]byte
	n.FillBytes(b[:])
	slices.Reverse(b[:])
	return b
}

// numberOf is the number that bytes are, the lowest first.
func numberOf(b [32]byte) *big.Int {
	slices.Reverse(b[:])
	return new(big.Int).SetBytes(b[:])
}

// below is the number that bytes of a digest are, the lowest first, modulo the order.
func below(digest [64]byte) *big.Int {
	slices.Reverse(digest[:])
	n := new(big.Int).SetBytes(digest[:])
	return n.Mod(n, order)
}

// unsigned are the bytes that signs tell, two each.
func unsigned(t *testing.T, signs string) []byte {
	t.Helper()
	b, err := hex.DecodeString(signs)
	if err != nil {
		t.Fatal(err)
	}
	return b
}

// text are so many bytes, the same ones in every run.
func text(seed int64, long int) []byte {
	b := make([]byte, long)
	rand.New(rand.NewSource(seed)).Read(b)
	return b
}

// seeds are 32 bytes so many times, the same ones in every run, those with all bits alike among them.
func seeds(seed int64, many int) [][32]byte {
	list := [][32]byte{{}, [32]byte(bytes.Repeat([]byte{0xff}, 32))}
	for i := range many {
		list = append(list, [32]byte(text(seed<<20+int64(i), 32)))
	}
	return list
}

// turned are the bytes with one bit turned.
func turned(b []byte, bit int) []byte {
	b = slices.Clone(b)
	b[bit/8] ^= 1 << (bit % 8)
	return b
}

// joined is a signature of its two halves.
func joined(first, second [32]byte) [64]byte { return [64]byte(append(first[:], second[:]...)) }

// library is the library's key of a seed.
func library(seed [32]byte) ed25519.PrivateKey { return ed25519.NewKeyFromSeed(seed[:]) }

// worded is Sign as P8.1 words it, and the public key, by the library's digests and numbers.
func worded(seed [32]byte, b []byte) (public [32]byte, sig [64]byte) {
	digest := sha512.Sum512(seed[:])
	secret := numberOf([32]byte(digest[:32]))
	for _, bit := range []int{0, 1, 2, 255} {
		secret.SetBit(secret, bit, 0)
	}
	secret.SetBit(secret, 254, 1)
	public = base(secret)
	r := below(sha512.Sum512(slices.Concat(digest[32:], b)))
	first := base(r)
	s := new(big.Int).Mul(asked(first, public, b), secret)
	s.Add(s, r)
	return public, joined(first, bytesOf(s.Mod(s, order)))
}

// base are the bytes of so many base points.
func base(times *big.Int) [32]byte { return edwards.Mul(bytesOf(times), edwards.Base()).Bytes() }

// asked is k of a signature's first half, a public key and a text.
func asked(first, public [32]byte, b []byte) *big.Int {
	return below(sha512.Sum512(slices.Concat(first[:], public[:], b)))
}

// holds is Verify as P8.2 words it: nothing is brought to the other side, and each multiple is reckoned by itself.
func holds(public [32]byte, sig [64]byte, b []byte) bool {
	first, second := [32]byte(sig[:32]), [32]byte(sig[32:])
	r, is := edwards.Decode(first)
	key, also := edwards.Decode(public)
	if !is || !also || numberOf(second).Cmp(order) >= 0 {
		return false
	}
	left := edwards.Mul(second, edwards.Base())
	right := edwards.Add(r, edwards.Mul(bytesOf(asked(first, public, b)), key))
	return left.Bytes() == right.Bytes()
}

// few are the eight points whose eighth multiple is the neutral one, the neutral one first.
func few(t *testing.T) []edwards.Point {
	t.Helper()
	eighth, is := edwards.Decode([32]byte(unsigned(t, "26e8958fc2b227b045c3f489f2ef98f0d5dfac05d3c63339b13802886d53fc05")))
	if !is {
		t.Fatal("no point")
	}
	list := []edwards.Point{{}}
	for range 7 {
		list = append(list, edwards.Add(list[len(list)-1], eighth))
	}
	return list
}

// P8.1, P8.2: RFC 8032's examples, section 7.1: of no byte, one, two, and the digest of "abc".
func TestKnown(t *testing.T) {
	for i, c := range [][4]string{
		{"9d61b19deffd5a60ba844af492ec2cc44449c5697b326919703bac031cae7f60", "d75a980182b10ab7d54bfed3c964073a0ee172f3daa62325af021a68f707511a", "", "e5564300c360ac729086e2cc806e828a84877f1eb8e5d974d873e065224901555fb8821590a33bacc61e39701cf9b46bd25bf5f0595bbe24655141438e7a100b"},
		{"4ccd089b28ff96da9db6c346ec114e0f5b8a319f35aba624da8cf6ed4fb8a6fb", "3d4017c3e843895a92b70aa74d1b7ebc9c982ccf2ec4968cc0cd55f12af4660c", "72", "92a009a9f0d4cab8720e820b5f642540a2b27b5416503f8fb3762223ebdb69da085ac1e43e15996e458f3613d0f11d8c387b2eaeb4302aeeb00d291612bb0c00"},
		{"c5aa8df43f9f837bedb7442f31dcb7b166d38535076f094b85ce3a2e0b4458f7", "fc51cd8e6218a1a38da47ed00230f0580816ed13ba3303ac5deb911548908025", "af82", "6291d657deec24024827e69c3abe01a30ce548a284743a445e3680d7db5ac3ac18ff9b538d16f290ae67f760984dc6594a7c15e9716ed28dc027beceea1ec40a"},
		{"833fe62409237b9d62ec77587520911e9a759cec1d19755b7da901b96dca3d42", "ec172b93ad5e563bf4932c70e1245034c35467ef2efd4d64ebf819683467e2bf", "ddaf35a193617abacc417349ae20413112e6fa4e89a97ea20a9eeee64b55d39a2192992a274fc1a836ba3c23a3feebbd454d4423643ce80e2a9ac94fa54ca49f", "dc2a4459e7369633a52b1bf277839a00201009a3efbf3ecb69bea2186c26b58909351fc9ac90b3ecfdfbc7c66431e0303dca179c138ac17ad9bef1177331a704"},
	} {
		seed, public := [32]byte(unsigned(t, c[0])), [32]byte(unsigned(t, c[1]))
		b, sig := unsigned(t, c[2]), [64]byte(unsigned(t, c[3]))
		if got := sign.Public(seed); got != public {
			t.Errorf("%d: the public key %x", i+1, got)
		}
		if got := sign.Sign(seed, b); got != sig {
			t.Errorf("%d: the signature %x", i+1, got)
		}
		if !sign.Verify(public, sig, b) {
			t.Errorf("%d: is not verified", i+1)
		}
		if sign.Verify(public, sig, b, []byte{0}) {
			t.Errorf("%d: is verified with a byte more", i+1)
		}
	}
}

// P8.1: many seeds' public keys are as the chapter words it, and the library's; they are points.
func TestPublic(t *testing.T) {
	ends := map[byte]int{}
	for _, seed := range seeds(1, 600) {
		got := sign.Public(seed)
		if want, _ := worded(seed, nil); got != want {
			t.Fatalf("%x: %x, not %x", seed, got, want)
		}
		if want := library(seed).Public().(ed25519.PublicKey); got != [32]byte(want) {
			t.Fatalf("%x: %x, the library %x", seed, got, want)
		}
		if _, is := edwards.Decode(got); !is {
			t.Fatalf("%x: %x is no point", seed, got)
		}
		digest := sha512.Sum512(seed[:])
		ends[digest[0]&7|digest[31]>>6<<3]++
	}
	if len(ends) != 32 {
		t.Errorf("of the bits that are cleared and set %d are met of 32", len(ends))
	}
}

// P8.1: each bit of a seed tells.
func TestSeedBits(t *testing.T) {
	seed := seeds(2, 1)[2]
	b := text(3, 10)
	public, sig := sign.Public(seed), sign.Sign(seed, b)
	for bit := range 256 {
		other := [32]byte(turned(seed[:], bit))
		if sign.Public(other) == public || sign.Sign(other, b) == sig {
			t.Errorf("the bit %d does not tell", bit)
		}
	}
}

// P8.1, P8.2: texts of every length through some blocks of the digests, and far longer ones, as the chapter words it, and as the library tells.
func TestSign(t *testing.T) {
	seed := seeds(4, 1)[2]
	for _, long := range slices.Concat(slices.Collect(upTo(300)), []int{1000, 4095, 4096, 100000, 1 << 20}) {
		b := text(5, long)
		got := sign.Sign(seed, b)
		public, want := worded(seed, b)
		if got != want {
			t.Fatalf("%d bytes: %x, not %x", long, got, want)
		}
		if want := ed25519.Sign(library(seed), b); got != [64]byte(want) {
			t.Fatalf("%d bytes: %x, the library %x", long, got, want)
		}
		if !sign.Verify(public, got, b) {
			t.Fatalf("%d bytes: is not verified", long)
		}
	}
}

// upTo are the numbers from 0 on that are less.
func upTo(n int) func(func(int) bool) {
	return func(yield func(int) bool) {
		for i := range n {
			if !yield(i) {
				return
			}
		}
	}
}

// P8.1, P8.2, P8.3: many seeds and texts, as the library tells, and with a second half below the order.
func TestMany(t *testing.T) {
	for i, seed := range seeds(6, 500) {
		b := text(int64(i), i%97)
		got := sign.Sign(seed, b)
		if want := ed25519.Sign(library(seed), b); got != [64]byte(want) {
			t.Fatalf("%x: %x, not %x", seed, got, want)
		}
		if !scalar.Fine([32]byte(got[32:])) {
			t.Fatalf("%x: %x is not below the order", seed, got[32:])
		}
		if !sign.Verify(sign.Public(seed), got, b) {
			t.Fatalf("%x: is not verified", seed)
		}
	}
}

// P8.1: R hangs on the prefix and the text alone: another text has another R, or the secret would be told by two signatures.
func TestFirstHalf(t *testing.T) {
	seed := seeds(7, 1)[2]
	seen := map[[32]byte]int{}
	for i := range 200 {
		b := text(8, 100)
		b[i%100] ^= byte(1 + i/100)
		sig := sign.Sign(seed, b)
		seen[[32]byte(sig[:32])]++
	}
	if len(seen) != 200 {
		t.Errorf("%d first halves of 200 texts", len(seen))
	}
}

// P8.3: a text cut at any two places, told byte by byte, and with parts of no byte, or nil, is the same text, signed and verified.
func TestParts(t *testing.T) {
	seed := seeds(9, 1)[2]
	b := text(10, 12)
	public, want := sign.Public(seed), sign.Sign(seed, b)
	try := func(what string, parts ...[]byte) {
		t.Helper()
		if got := sign.Sign(seed, parts...); got != want {
			t.Errorf("%s: %x, not %x", what, got, want)
		}
		if !sign.Verify(public, want, parts...) {
			t.Errorf("%s: is not verified", what)
		}
	}
	for i := range len(b) + 1 {
		for j := range i + 1 {
			try("in three", b[:j], b[j:i], b[i:])
		}
	}
	try("with nothing", nil, b[:5], []byte{}, nil, b[5:], nil)
	var bits [][]byte
	for i := range b {
		bits = append(bits, b[i:i+1])
	}
	try("byte by byte", bits...)
}

// P8.3: long texts in many parts, of one byte, and of about a block.
func TestManyParts(t *testing.T) {
	seed := seeds(11, 1)[2]
	b := text(12, 20000)
	public, want := sign.Public(seed), sign.Sign(seed, b)
	for _, long := range []int{1, 63, 64, 65, 127, 128, 129, 7000} {
		parts := slices.Collect(slices.Chunk(b, long))
		if got := sign.Sign(seed, parts...); got != want {
			t.Errorf("parts of %d: %x, not %x", long, got, want)
		}
		if !sign.Verify(public, want, parts...) {
			t.Errorf("parts of %d: is not verified", long)
		}
		parts[0], parts[1] = parts[1], parts[0]
		if sign.Verify(public, want, parts...) {
			t.Errorf("parts of %d: is verified with two that changed places", long)
		}
	}
}

// P8.3: no part, one of no byte, and a nil one are no text, and no other text is verified for it.
func TestNoText(t *testing.T) {
	for _, seed := range seeds(13, 3) {
		public, sig := sign.Public(seed), sign.Sign(seed)
		for i, parts := range [][][]byte{nil, {}, {nil}, {{}}, {nil, {}, nil}} {
			if sign.Sign(seed, parts...) != sig || !sign.Verify(public, sig, parts...) {
				t.Errorf("%x: %d", seed, i)
			}
		}
		if sign.Verify(public, sig, []byte{0}) || sign.Verify(public, sign.Sign(seed, []byte{0})) {
			t.Errorf("%x: a byte 0 is no byte", seed)
		}
	}
}

// P8.3: each bit of a public key, of a signature and of a text is asked for.
func TestOneBit(t *testing.T) {
	for i, seed := range seeds(14, 1) {
		b := text(int64(15+i), 20)
		public, sig := sign.Public(seed), sign.Sign(seed, b)
		for bit := range 8 * len(public) {
			if sign.Verify([32]byte(turned(public[:], bit)), sig, b) {
				t.Errorf("%x: the public key's bit %d", seed, bit)
			}
		}
		for bit := range 8 * len(sig) {
			if sign.Verify(public, [64]byte(turned(sig[:], bit)), b) {
				t.Errorf("%x: the signature's bit %d", seed, bit)
			}
		}
		for bit := range 8 * len(b) {
			if sign.Verify(public, sig, turned(b, bit)) {
				t.Errorf("%x: the text's bit %d", seed, bit)
			}
		}
	}
}

// P8.3: any other byte at the halves' ends, and in a text, is told.
func TestOneByte(t *testing.T) {
	seed := seeds(16, 1)[2]
	b := text(17, 3)
	public, sig := sign.Public(seed), sign.Sign(seed, b)
	for d := 1; d < 256; d++ {
		for _, at := range []int{0, 31, 32, 63} {
			bad := sig
			bad[at] ^= byte(d)
			if sign.Verify(public, bad, b) {
				t.Errorf("the signature's byte %d: %d", at, d)
			}
		}
		for _, at := range []int{0, 31} {
			bad := public
			bad[at] ^= byte(d)
			if sign.Verify(bad, sig, b) {
				t.Errorf("the public key's byte %d: %d", at, d)
			}
		}
		bad := slices.Clone(b)
		bad[1] ^= byte(d)
		if sign.Verify(public, sig, bad) {
			t.Errorf("the text's byte: %d", d)
		}
	}
}

// P8.3: a text with bytes more or fewer, ahead or behind, is another one; so are the key and R that the digest has ahead of it.
func TestOtherTexts(t *testing.T) {
	seed := seeds(18, 1)[2]
	b := text(19, 130)
	public, sig := sign.Public(seed), sign.Sign(seed, b)
	for long := range len(b) {
		if sign.Verify(public, sig, b[:long]) || sign.Verify(public, sig, b[long+1:]) {
			t.Errorf("%d bytes of %d", long, len(b))
		}
	}
	for i, parts := range [][][]byte{{b, {0}}, {{0}, b}, {b, b}, {public[:], b}, {sig[:32], public[:], b}, nil} {
		if sign.Verify(public, sig, parts...) {
			t.Errorf("%d: is verified", i)
		}
	}
}

// P8.3: what one signed is no other one's, and no other text's.
func TestOthers(t *testing.T) {
	all := seeds(20, 6)
	for i, one := range all {
		for j, other := range all {
			b, c := text(int64(21+i), 9), text(int64(21+j), 9)
			sig := sign.Sign(one, b)
			if got := sign.Verify(sign.Public(other), sig, c); got != (i == j) {
				t.Errorf("%d and %d: %v", i, j, got)
			}
			if got := sign.Verify(sign.Public(one), sig, c); got != (i == j) {
				t.Errorf("%d and %d: the text: %v", i, j, got)
			}
			if got := sign.Verify(sign.Public(other), sig, b); got != (i == j) {
				t.Errorf("%d and %d: the key: %v", i, j, got)
			}
		}
	}
}

// P8.2: the second half and the order, as often as there is room, reckons to the same point, and is not verified.
func TestFromTheOrderOn(t *testing.T) {
	for i, seed := range seeds(22, 20) {
		b := text(int64(i), 5)
		public, sig := sign.Public(seed), sign.Sign(seed, b)
		count := 0
		for s := numberOf([32]byte(sig[32:])); ; count++ {
			if s.Add(s, order); s.Cmp(power(256)) >= 0 {
				break
			}
			if sign.Verify(public, joined([32]byte(sig[:32]), bytesOf(s)), b) {
				t.Errorf("%x: %x is verified", seed, s)
			}
		}
		if count < 14 {
			t.Errorf("%x: %d others", seed, count)
		}
	}
}

// P8.2: the second half at its ends: 0 and the order less 1 are verified, if R is made for them; the order is not.
func TestSecondHalfEnds(t *testing.T) {
	neutral := edwards.Point{}.Bytes()
	for _, c := range []struct {
		s  *big.Int
		is bool
	}{
		{big.NewInt(0), true}, {big.NewInt(1), true}, {new(big.Int).Sub(order, big.NewInt(1)), true},
		{order, false}, {new(big.Int).Add(order, big.NewInt(1)), false},
		{power(252), true}, {power(253), false}, {power(254), false}, {power(255), false},
		{new(big.Int).Sub(power(256), big.NewInt(1)), false},
	} {
		// The neutral one's multiples add nothing, so R is as many base points as the second half tells.
		sig := joined(base(new(big.Int).Mod(c.s, order)), bytesOf(c.s))
		if got := sign.Verify(neutral, sig, text(23, 8)); got != c.is {
			t.Errorf("%x: %v", c.s, got)
		}
	}
}

// P8.2: bytes that are no point's, for R or for the public key, are not verified; the chapter's 2 among them.
func TestNoPoint(t *testing.T) {
	prime := new(big.Int).Sub(power(255), big.NewInt(19))
	seed := seeds(24, 1)[2]
	public, sig := sign.Public(seed), sign.Sign(seed)
	list := [][32]byte{
		{2}, bytesOf(prime), bytesOf(new(big.Int).Add(prime, big.NewInt(1))),
		bytesOf(new(big.Int).Sub(power(255), big.NewInt(1))), bytesOf(new(big.Int).Sub(power(256), big.NewInt(1))),
	}
	for _, b := range list {
		for _, second := range [][32]byte{{}, {1}, [32]byte(sig[32:])} {
			if sign.Verify(b, sig) || sign.Verify(public, joined(b, second)) || sign.Verify(b, joined(b, second)) {
				t.Errorf("%x is verified", b)
			}
		}
	}
}

// P8.2: of a point's bytes none but edwards' own are taken, neither for R nor for the public key, though they reckon to the same point modulo p.
func TestOneForm(t *testing.T) {
	prime := new(big.Int).Sub(power(255), big.NewInt(19))
	neutral := edwards.Point{}.Bytes()
	if !sign.Verify(neutral, joined(neutral, [32]byte{}), []byte("any")) {
		t.Error("the neutral one's own bytes are not verified")
	}
	above := bytesOf(new(big.Int).Add(prime, big.NewInt(1)))
	for _, form := range [][32]byte{above, [32]byte(turned(above[:], 255)), [32]byte(turned(neutral[:], 255))} {
		if sign.Verify(form, joined(neutral, [32]byte{}), []byte("any")) {
			t.Errorf("%x is a public key", form)
		}
		if sign.Verify(neutral, joined(form, [32]byte{}), []byte("any")) {
			t.Errorf("%x is an R", form)
		}
	}
}

// P8.2: points are held against each other as they are, not eight times: with one of the few beside R, or beside the public key, it is as the chapter words it.
func TestFew(t *testing.T) {
	seed := seeds(25, 1)[2]
	digest := sha512.Sum512(seed[:])
	secret := new(big.Int).Mod(numberOf([32]byte(digest[:32])), order)
	found := map[bool]int{}
	for i, p := range few(t) {
		for j, q := range few(t) {
			key := edwards.Add(edwards.Mul(bytesOf(secret), edwards.Base()), p).Bytes()
			for n := range 16 {
				b := text(int64(26+n), 4)
				r := big.NewInt(int64(1000 + n))
				first := edwards.Add(edwards.Mul(bytesOf(r), edwards.Base()), q).Bytes()
				s := new(big.Int).Mul(asked(first, key, b), secret)
				sig := joined(first, bytesOf(s.Mod(s.Add(s, r), order)))
				want := holds(key, sig, b)
				if got := sign.Verify(key, sig, b); got != want {
					t.Fatalf("%d, %d, %d: %v", i, j, n, got)
				}
				if i == 0 && want != (j == 0) {
					t.Fatalf("%d, %d, %d: %v is wanted", i, j, n, want)
				}
				found[want]++
			}
		}
	}
	if found[true] < 32 || found[false] < 500 {
		t.Errorf("%v", found)
	}
}

// P8.2: keys that are one of the few alone are points too, and are taken.
func TestFewKeys(t *testing.T) {
	found := map[bool]int{}
	for i, p := range few(t) {
		for j, q := range few(t) {
			for n := range 8 {
				b := text(int64(27+n), 6)
				sig := joined(q.Bytes(), [32]byte{})
				want := holds(p.Bytes(), sig, b)
				if got := sign.Verify(p.Bytes(), sig, b); got != want {
					t.Fatalf("%d, %d, %d: %v", i, j, n, got)
				}
				found[want]++
			}
		}
	}
	if found[true] < 20 || found[false] < 200 {
		t.Errorf("%v", found)
	}
}

// P8.2, R1: any bytes at all are told something, and nearly always false.
func TestAnyBytes(t *testing.T) {
	for i := range int64(500) {
		all := text(28<<20+i, 32+64+int(i)%50)
		public, sig, b := [32]byte(all[:32]), [64]byte(all[32:96]), all[96:]
		sig[63] &= 0x0f // as often below the order as not
		if sign.Verify(public, sig, b) != holds(public, sig, b) || sign.Verify(public, sig, b) {
			t.Errorf("%x", all)
		}
	}
	if sign.Verify([32]byte{}, [64]byte{}) != holds([32]byte{}, [64]byte{}, nil) {
		t.Error("all 0")
	}
}

// P8.2: what the library signs is verified, and what is verified the library verifies.
func TestLibrary(t *testing.T) {
	for i, seed := range seeds(29, 100) {
		key, b := library(seed), text(int64(i), i)
		sig := [64]byte(ed25519.Sign(key, b))
		public := [32]byte(key.Public().(ed25519.PublicKey))
		if !sign.Verify(public, sig, b) {
			t.Errorf("%x: is not verified", seed)
		}
		mine := sign.Sign(seed, b)
		if own := sign.Public(seed); !ed25519.Verify(own[:], b, mine[:]) {
			t.Errorf("%x: the library does not verify it", seed)
		}
	}
}

// R4: parts and the list of them stay as they were, spare room too.
func TestArgumentsStay(t *testing.T) {
	seed := seeds(30, 1)[2]
	public := sign.Public(seed)
	first, second := text(31, 300), text(32, 300)
	list := [][]byte{first[:150], second[:150], []byte("spare"), []byte("spare")}
	was := [][]byte{slices.Clone(first), slices.Clone(second)}
	sig := sign.Sign(seed, list[:2]...)
	if !sign.Verify(public, sig, list[:2]...) || sign.Verify(public, sig, list[:1]...) {
		t.Error("verified otherwise")
	}
	if !bytes.Equal(first, was[0]) || !bytes.Equal(second, was[1]) {
		t.Error("a part is changed")
	}
	if &list[0][0] != &first[0] || &list[1][0] != &second[0] || len(list[0]) != 150 || len(list[1]) != 150 || string(list[2]) != "spare" || string(list[3]) != "spare" {
		t.Error("the list of parts is changed")
	}
}

// R4, R5: nothing of one call is kept for the next one: what is changed behind a call changes no answer, and the same is answered again.
func TestNothingKept(t *testing.T) {
	seed := seeds(33, 1)[2]
	b := text(34, 100)
	public, sig := sign.Public(seed), sign.Sign(seed, b)
	again := sig
	clear(b)
	if sign.Verify(public, sig, b) || sig != again {
		t.Error("the text is kept")
	}
	if sign.Sign(seed, b) != [64]byte(ed25519.Sign(library(seed), make([]byte, 100))) {
		t.Error("what was signed ahead tells")
	}
	if sign.Public(seed) != public || sign.Sign(seed, text(34, 100)) != sig || !sign.Verify(public, sig, text(34, 100)) {
		t.Error("another answer")
	}
}

func BenchmarkSign(b *testing.B) {
	seed, words := [32]byte{1}, text(1, 100)
	for b.Loop() {
		sign.Sign(seed, words)
	}
}

func BenchmarkVerify(b *testing.B) {
	seed, words := [32]byte{1}, text(1, 100)
	public, sig := sign.Public(seed), sign.Sign(seed, words)
	for b.Loop() {
		sign.Verify(public, sig, words)
	}
}
