package poly_test

import (
	"bytes"
	"encoding/hex"
	"math/big"
	"math/rand"
	"slices"
	"testing"

	"fardel/poly"
)

const (
	size = 16
	ietf = "Any submission to the IETF intended by the Contributor for publication as all or part of an IETF Internet-Draft or RFC and any statement made within the context of an IETF activity is considered an \"IETF Contribution\". Such statements include oral statements in IETF sessions, as well as written and electronic communications made at any time or place, which are addressed to"
	wabe = "'Twas brillig, and the slithy toves\nDid gyre and gimble in the wabe:\nAll mimsy were the borogoves,\nAnd the mome raths outgrabe."
)

// text is so many bytes, the same ones in every run.
func text(seed int64, long int) []byte {
	b := make([]byte, long)
	rand.New(rand.NewSource(seed)).Read(b)
	return b
}

// full is so many bytes with all bits 1.
func full(long int) []byte { return bytes.Repeat([]byte{0xff}, long) }

// keyOf is the same one in every run.
func keyOf(seed int64) [32]byte { return [32]byte(text(seed+1<<40, 32)) }

// halves is a key of both its halves, with bytes 0 behind either.
func halves(r, s []byte) (key [32]byte) {
	copy(key[:size], r)
	copy(key[size:], s)
	return key
}

// unsigned are the bytes that signs tell, two each.
func unsigned(t *testing.T, signs string) []byte {
	t.Helper()
	b, err := hex.DecodeString(signs)
	if err != nil {
		t.Fatal(err)
	}
	return b
}

// power is 2 to the power of n, and more.
func power(n uint, more int64) *big.Int {
	x := new(big.Int).Lsh(big.NewInt(1), n)
	return x.Add(x, big.NewInt(more))
}

func prime() *big.Int { return power(130, -5) }

// number is that of bytes, the lowest first.
func number(b []byte) *big.Int {
	b = slices.Clone(b)
	slices.Reverse(b)
	return new(big.Int).SetBytes(b)
}

// bytesOf are the lowest 16 of a number, the lowest first.
func bytesOf(x *big.Int) (b [size]byte) {
	x = new(big.Int).Mod(x, power(128, 0))
	x.FillBytes(b[:])
	slices.Reverse(b[:])
	return b
}

// first is r of a key, as P10.1 words it.
func first(key [32]byte) *big.Int {
	for _, i := range []int{3, 7, 11, 15} {
		key[i] &= 0x0f
	}
	for _, i := range []int{4, 8, 12} {
		key[i] &= 0xfc
	}
	return number(key[:size])
}

// sum is what a text comes to, ahead of s, as P10.1 words it.
func sum(key [32]byte, b []byte) *big.Int {
	x := new(big.Int)
	for block := range slices.Chunk(b, size) {
		x.Add(x, number(append(slices.Clone(block), 1)))
		x.Mul(x, first(key))
		x.Mod(x, prime())
	}
	return x
}

// worded is Tag of a text in one part, as P10.1 words it.
func worded(key [32]byte, b []byte) [size]byte {
	x := sum(key, b)
	return bytesOf(x.Add(x, number(key[size:])))
}

// same holds a text's tag against worded's.
func same(t *testing.T, key [32]byte, b []byte) {
	t.Helper()
	if got, want := poly.Tag(key, b), worded(key, b); got != want {
		t.Fatalf("%x, %x: %x, not %x", key, b, got, want)
	}
}

// P10.1: the tags that RFC 8439 tells, in its section 2.5.2 and in A.3.
func TestKnown(t *testing.T) {
	hard := halves([]byte{0: 1, 8: 4}, nil)
	far := unsigned(t, "e33594d7505e43b900000000000000003394d7505e4379cd01000000000000000000000000000000000000000000000001000000000000000000000000000000")
	code := unsigned(t, "36e5f6b5c5e06070f0efca96227a863e")
	for i, c := range []struct {
		key  [32]byte
		text []byte
		want string
	}{
		{[32]byte(unsigned(t, "85d6be7857556d337f4452fe42d506a80103808afb0db2fd4abff6af4149f51b")), []byte("Cryptographic Forum Research Group"), "a8061dc1305136c6c22b8baf0c0127a9"},
		{[32]byte{}, make([]byte, 64), "00000000000000000000000000000000"},
		{halves(nil, code), []byte(ietf), "36e5f6b5c5e06070f0efca96227a863e"},
		{halves(code, nil), []byte(ietf), "f3477e7cd95417af89a6b8794c310cf0"},
		{[32]byte(unsigned(t, "1c9240a5eb55d38af333888604f6b5f0473917c1402b80099dca5cbc207075c0")), []byte(wabe), "4541669a7eaaee61e708dc7cbcc5eb62"},
		{[32]byte{2}, full(16), "03000000000000000000000000000000"},
		{halves([]byte{2}, full(16)), append([]byte{2}, make([]byte, 15)...), "03000000000000000000000000000000"},
		{[32]byte{1}, slices.Concat(full(16), []byte{0xf0}, full(15), []byte{0x11}, make([]byte, 15)), "05000000000000000000000000000000"},
		{[32]byte{1}, slices.Concat(full(16), []byte{0xfb}, bytes.Repeat([]byte{0xfe}, 15), bytes.Repeat([]byte{1}, 16)), "00000000000000000000000000000000"},
		{[32]byte{2}, slices.Concat([]byte{0xfd}, full(15)), "faffffffffffffffffffffffffffffff"},
		{hard, far, "14000000000000005500000000000000"},
		{hard, far[:48], "13000000000000000000000000000000"},
	} {
		if got := poly.Tag(c.key, c.text); hex.EncodeToString(got[:]) != c.want {
			t.Errorf("%d: %x", i, got)
		}
	}
}

// P10.1: tags of keys with bits that are cleared, and of longer texts, by two other programs.
func TestOtherProgram(t *testing.T) {
	var counted []byte
	for i := range 1000 {
		counted = append(counted, byte(i))
	}
	for i, c := range []struct {
		key  [32]byte
		text []byte
		want string
	}{
		{halves(full(16), full(16)), full(16), "fbffff17faffff17faffff17faffff17"},
		{halves(full(16), full(16)), full(1000), "de9406b10e7023bcd692ff687f4cbc7f"},
		{halves(full(16), nil), full(33), "87fa6a437bf4ec24a274504dc37495bc"},
		{[32]byte(counted[100:132]), counted, "2e26b0e0ffc2ef604e8e762bcc7652df"},
		{[32]byte(counted[224:256]), counted[:255], "c0047b8ae31b3b93e9e02576d6193bd0"},
		{[32]byte(counted[224:256]), counted[:1], "ffd1d4d6f8d9dcde00e2e4e608eaecee"},
	} {
		if got := poly.Tag(c.key, c.text); hex.EncodeToString(got[:]) != c.want {
			t.Errorf("%d: %x", i, got)
		}
	}
}

// P10.1: the chapter's examples.
func TestExamples(t *testing.T) {
	key := [32]byte(unsigned(t, "85d6be7857556d337f4452fe42d506a80103808afb0db2fd4abff6af4149f51b"))
	if got := poly.Tag(key, []byte("Cryptographic Forum Research Group")); !bytes.Equal(got[:4], []byte{0xa8, 0x06, 0x1d, 0xc1}) {
		t.Errorf("%x", got)
	}
	for long := range 100 {
		if got := poly.Tag([32]byte{}, text(int64(long), long)); got != [size]byte{} {
			t.Errorf("%d bytes by a key of 0: %x", long, got)
		}
	}
}

// P10.1: many keys, and texts of many lengths.
func TestMany(t *testing.T) {
	for i := range int64(4000) {
		same(t, keyOf(i), text(i, int(i%257)))
	}
	for i := range int64(4) {
		same(t, keyOf(i), text(i, 1<<16+int(i)))
	}
}

// P10.1: texts of every length through some blocks, of bytes with all bits 0, all 1, and others, by keys of the same.
func TestLengths(t *testing.T) {
	for long := range 10*size + 1 {
		for _, b := range [][]byte{make([]byte, long), full(long), text(1, long)} {
			for _, r := range [][]byte{{}, {1}, {4}, {15: 4}, full(16), text(2, 16)} {
				for _, s := range [][]byte{{}, {1}, full(16), text(3, 16)} {
					same(t, halves(r, s), b)
				}
			}
		}
	}
}

// P10.1: no byte comes to 0, whatever r is, so its tag is s; no part, and parts without bytes, are no byte.
func TestNothing(t *testing.T) {
	for i := range int64(20) {
		key := keyOf(i)
		want := [size]byte(key[size:])
		for j, got := range [][size]byte{poly.Tag(key), poly.Tag(key, nil), poly.Tag(key, []byte{}), poly.Tag(key, nil, []byte{}, make([]byte, 0, 40), nil), poly.Tag(key, [][]byte{}...)} {
			if got != want {
				t.Errorf("%d: %x, not %x", j, got, want)
			}
		}
	}
}

// P10.1: each bit of r alone, and all but it: just those of the chapter are cleared.
func TestBitsOfFirst(t *testing.T) {
	cleared := map[int]bool{}
	for _, i := range []int{3, 7, 11, 15} {
		for bit := 4; bit < 8; bit++ {
			cleared[8*i+bit] = true
		}
	}
	for _, i := range []int{4, 8, 12} {
		cleared[8*i], cleared[8*i+1] = true, true
	}
	b, s := text(4, 100), text(5, 16)
	for bit := range 128 {
		for _, rest := range [][]byte{make([]byte, 16), full(16), text(6, 16)} {
			was := poly.Tag(halves(rest, s), b)
			rest[bit/8] ^= 1 << (bit % 8)
			key := halves(rest, s)
			if (poly.Tag(key, b) == was) != cleared[bit] {
				t.Errorf("the bit %d of %x", bit, rest)
			}
			same(t, key, b)
		}
	}
}

// P10.1: each bit of s alone, and all but it: none is cleared.
func TestBitsOfSecond(t *testing.T) {
	b, r := text(7, 100), text(8, 16)
	for bit := range 128 {
		for _, rest := range [][]byte{make([]byte, 16), full(16)} {
			was := poly.Tag(halves(r, rest), b)
			rest[bit/8] ^= 1 << (bit % 8)
			key := halves(r, rest)
			if poly.Tag(key, b) == was {
				t.Errorf("the bit %d of %x", bit, rest)
			}
			same(t, key, b)
		}
	}
}

// P10.1: each bit of a text alone, and all but it, in whole blocks and in fewer bytes.
func TestBitsOfText(t *testing.T) {
	key := keyOf(9)
	found := map[[size]byte]int{}
	for bit := range 8 * 55 {
		for _, b := range [][]byte{make([]byte, 55), full(55)} {
			b[bit/8] ^= 1 << (bit % 8)
			same(t, key, b)
			found[poly.Tag(key, b)]++
		}
	}
	if len(found) != 2*8*55 {
		t.Errorf("%d tags", len(found))
	}
}

// P10.1: the byte 1 stands behind the last bytes, however few: bytes 0 or 1 behind them are another text.
func TestBehindTheLast(t *testing.T) {
	key := keyOf(10)
	for _, start := range [][]byte{nil, make([]byte, 7), text(11, 20), full(16)} {
		found := map[[size]byte]int{}
		for _, more := range []byte{0, 1} {
			b := slices.Clone(start)
			for range 3 * size {
				b = append(b, more)
				same(t, key, b)
				found[poly.Tag(key, b)]++
			}
		}
		if len(found) != 6*size {
			t.Errorf("%d tags behind %x", len(found), start)
		}
	}
}

// leading is a text of three blocks by which a key's sum is want.
func leading(t *testing.T, key [32]byte, want *big.Int) []byte {
	t.Helper()
	back := new(big.Int).ModInverse(first(key), prime())
	for try := range int64(1000) {
		b := text(try, 2*size)
		x := new(big.Int).Mul(want, back)
		x.Sub(x, sum(key, b))
		x.Mod(x, prime())
		// The last block has a byte 1 behind it, and so it is just of these numbers.
		if x.Cmp(power(128, 0)) >= 0 && x.Cmp(power(129, 0)) < 0 {
			last := bytesOf(x)
			b = append(b, last[:]...)
			if sum(key, b).Cmp(want) != 0 {
				t.Fatalf("%x by %x", b, key)
			}
			return b
		}
	}
	t.Fatalf("no text comes to %d", want)
	return nil
}

// P10.1: sums about 0, P, and where limbs end, ahead of s, and with an s that goes to 2^128 or beyond: it is modulo P first, and modulo 2^128 then.
func TestEnds(t *testing.T) {
	var wanted []*big.Int
	for k := range int64(12) {
		wanted = append(wanted, big.NewInt(k), new(big.Int).Sub(prime(), big.NewInt(k+1)))
		for _, n := range []uint{26, 32, 44, 52, 64, 78, 88, 96, 104, 128, 129} {
			wanted = append(wanted, power(n, k), power(n, -k-1))
		}
	}
	for i, want := range wanted {
		key := keyOf(int64(i))
		b := leading(t, key, want)
		low := bytesOf(want)
		against := bytesOf(new(big.Int).Neg(want))
		less := bytesOf(new(big.Int).Not(want))
		for _, c := range []struct{ s, tag []byte }{
			{nil, low[:]},
			{against[:], make([]byte, 16)},
			{less[:], full(16)},
		} {
			if got := poly.Tag(halves(key[:size], c.s), b); !bytes.Equal(got[:], c.tag) {
				t.Errorf("%d with %x: %x, not %x", want, c.s, got, c.tag)
			}
		}
		same(t, halves(key[:size], full(16)), b)
	}
}

// P10.1: by r 1 blocks are no more than a sum: at P, 2 P and beyond, from both sides, on the way as well as at the end.
func TestSumsOfOne(t *testing.T) {
	key := [32]byte{1}
	for blocks := 2; blocks < 12; blocks++ {
		for times := int64(1); times < 6; times++ {
			for k := int64(-9); k < 10; k++ {
				left := new(big.Int).Mul(prime(), big.NewInt(times))
				left.Add(left, big.NewInt(k))
				left.Sub(left, new(big.Int).Mul(power(128, 0), big.NewInt(int64(blocks))))
				if b, is := parted(left, blocks); is {
					same(t, key, b)
					same(t, key, slices.Concat(b, text(k, 40)))
				}
			}
		}
	}
}

// parted are so many numbers of 16 bytes that are left, together.
func parted(left *big.Int, blocks int) (b []byte, is bool) {
	most := power(128, -1)
	for range blocks {
		one := left
		if one.Sign() < 0 {
			return nil, false
		}
		if one.Cmp(most) > 0 {
			one = most
		}
		more := bytesOf(one)
		b = append(b, more[:]...)
		left = new(big.Int).Sub(left, one)
	}
	return b, left.Sign() == 0
}

// P10.2: a text in two and three parts, cut at all places.
func TestCut(t *testing.T) {
	key, b := keyOf(12), text(13, 4*size+5)
	want := worded(key, b)
	for i := range len(b) + 1 {
		if got := poly.Tag(key, b[:i], b[i:]); got != want {
			t.Errorf("cut at %d: %x, not %x", i, got, want)
		}
		for j := i; j <= len(b); j++ {
			if got := poly.Tag(key, b[:i], b[i:j], b[j:]); got != want {
				t.Errorf("cut at %d and %d: %x, not %x", i, j, got, want)
			}
		}
	}
}

// P10.2: a text in many parts of each length, with parts without bytes between them.
func TestManyParts(t *testing.T) {
	for long := range 6*size + 1 {
		key, b := keyOf(int64(long)), text(14, long)
		want := worded(key, b)
		for each := 1; each < 40; each++ {
			parts := slices.Collect(slices.Chunk(b, each))
			if got := poly.Tag(key, parts...); got != want {
				t.Errorf("%d bytes, %d each: %x, not %x", long, each, got, want)
			}
			between := [][]byte{nil}
			for _, part := range parts {
				between = append(between, part, nil, []byte{})
			}
			if got := poly.Tag(key, between...); got != want {
				t.Errorf("%d bytes, %d each, and none between: %x, not %x", long, each, got, want)
			}
		}
	}
}

// P10.2: parts of any lengths, and a great text.
func TestAnyParts(t *testing.T) {
	random := rand.New(rand.NewSource(15))
	for i := range int64(300) {
		key, b := keyOf(i), text(i, random.Intn(2000))
		want := worded(key, b)
		var parts [][]byte
		for rest := b; len(rest) > 0; {
			n := random.Intn(min(len(rest), 50) + 1)
			parts = append(parts, rest[:n])
			rest = rest[n:]
		}
		if got := poly.Tag(key, parts...); got != want {
			t.Errorf("%d: %x, not %x", i, got, want)
		}
	}
	key, b := keyOf(16), text(16, 1<<22+3)
	if poly.Tag(key, slices.Collect(slices.Chunk(b, 1))...) != poly.Tag(key, b) {
		t.Error("a great text, a byte each")
	}
}

// P10.1: the parts' order counts.
func TestOrder(t *testing.T) {
	key := keyOf(17)
	for long := 1; long < 50; long++ {
		a, b := text(18, long), text(19, long+3)
		if got := poly.Tag(key, a, b); got != worded(key, slices.Concat(a, b)) || got == poly.Tag(key, b, a) {
			t.Errorf("%d bytes: %x", long, got)
		}
	}
}

// R4: what is handed in stays as it was: bytes, their spare room, and the list of the parts.
func TestArgumentsStay(t *testing.T) {
	key := keyOf(20)
	for long := range 70 {
		all := text(21, 300)
		was := slices.Clone(all)
		parts := [][]byte{all[:long], all[100 : 100+long], nil, all[200 : 200+long]}
		spare := append(parts, all[299:])[:len(parts)]
		poly.Tag(key, spare...)
		if !bytes.Equal(all, was) {
			t.Fatalf("%d bytes: changed", long)
		}
		for i, from := range []int{0, 100, -1, 200} {
			if from >= 0 && !bytes.Equal(spare[i], was[from:from+long]) || from < 0 && spare[i] != nil {
				t.Errorf("%d bytes: the part %d is another", long, i)
			}
		}
		if !bytes.Equal(spare[:5][4], was[299:]) {
			t.Errorf("%d bytes: the list's spare room is changed", long)
		}
	}
}

// R5: parts that share their bytes are texts as any others, and nothing of one call is kept for the next one.
func TestNothingKept(t *testing.T) {
	key, b := keyOf(22), text(23, 45)
	twice := slices.Concat(b, b[10:], b)
	want := worded(key, twice)
	for range 3 {
		if got := poly.Tag(key, b, b[10:], b); got != want {
			t.Errorf("%x, not %x", got, want)
		}
		poly.Tag(keyOf(24), text(25, 23))
		poly.Tag(keyOf(24))
	}
}

func BenchmarkTag(b *testing.B) {
	key, words := keyOf(1), text(1, 1<<16)
	b.SetBytes(int64(len(words)))
	for b.Loop() {
		poly.Tag(key, words)
	}
}
