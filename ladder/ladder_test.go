package ladder_test

import (
	"crypto/ecdh"
	"encoding/hex"
	"math/big"
	"math/rand"
	"slices"
	"testing"

	"fardel/ladder"
)

// prime is p, by the library's own numbers.
var prime = new(big.Int).Sub(power(255), big.NewInt(19))

func power(n uint) *big.Int { return new(big.Int).Lsh(big.NewInt(1), n) }

// bytesOf is a number below 2^256, the lowest byte first.
func bytesOf(n *big.Int) [32]byte {
	var b [32]byte
	n.FillBytes(b[:])
	slices.Reverse(b[:])
	return b
}

// numberOf is the number that bytes are, the lowest first.
func numberOf(b [32]byte) *big.Int {
	slices.Reverse(b[:])
	return new(big.Int).SetBytes(b[:])
}

// of are 32 bytes, told by two signs each.
func of(t *testing.T, signs string) [32]byte {
	t.Helper()
	b, err := hex.DecodeString(signs)
	if err != nil || len(b) != 32 {
		t.Fatalf("%q are no 32 bytes", signs)
	}
	return [32]byte(b)
}

// texts are 32 bytes so many times, the same ones in every run.
func texts(seed int64, many int) [][32]byte {
	source := rand.New(rand.NewSource(seed))
	list := make([][32]byte, many)
	for i := range list {
		source.Read(list[i][:])
	}
	return list
}

// turned are the bytes with one bit turned.
func turned(b [32]byte, bit int) [32]byte {
	b[bit/8] ^= 1 << (bit % 8)
	return b
}

// worded is Mul as P6.1 and P6.2 word it, by the library's own numbers.
func worded(secret, point [32]byte) [32]byte {
	number := numberOf(point)
	return bytesOf(climbed(scalarOf(secret), wrapped(number.SetBit(number, 255, 0))))
}

// scalarOf is the scalar of a secret as P6.1 words it.
func scalarOf(secret [32]byte) *big.Int {
	scalar := numberOf(secret)
	for _, bit := range []int{0, 1, 2, 255} {
		scalar.SetBit(scalar, bit, 0)
	}
	return scalar.SetBit(scalar, 254, 1)
}

// climbed are P6.2's steps, of any scalar below 2^255.
func climbed(scalar, u *big.Int) *big.Int {
	add := func(x, y *big.Int) *big.Int { return wrapped(new(big.Int).Add(x, y)) }
	sub := func(x, y *big.Int) *big.Int { return wrapped(new(big.Int).Sub(x, y)) }
	mul := func(x, y *big.Int) *big.Int { return wrapped(new(big.Int).Mul(x, y)) }
	a, b, c, d := big.NewInt(1), big.NewInt(0), u, big.NewInt(1)
	for i := 254; i >= 0; i-- {
		if scalar.Bit(i) == 1 {
			a, b, c, d = c, d, a, b
		}
		s, t := mul(add(a, b), add(a, b)), mul(sub(a, b), sub(a, b))
		e := sub(s, t)
		x, y := mul(add(c, d), sub(a, b)), mul(sub(c, d), add(a, b))
		a, b = mul(s, t), mul(e, add(s, mul(big.NewInt(121665), e)))
		c, d = mul(add(x, y), add(x, y)), mul(u, mul(sub(x, y), sub(x, y)))
		if scalar.Bit(i) == 1 {
			a, b, c, d = c, d, a, b
		}
	}
	if b.Sign() == 0 {
		return new(big.Int)
	}
	return mul(a, new(big.Int).ModInverse(b, prime))
}

// wrapped is a number modulo p, from 0 on.
func wrapped(n *big.Int) *big.Int { return new(big.Int).Mod(n, prime) }

// library is what the library shares of a secret and a public key, 0 where it refuses, as it does just there.
func library(t *testing.T, secret, public [32]byte) [32]byte {
	t.Helper()
	key, err := ecdh.X25519().NewPrivateKey(secret[:])
	if err != nil {
		t.Fatal(err)
	}
	other, err := ecdh.X25519().NewPublicKey(public[:])
	if err != nil {
		t.Fatal(err)
	}
	b, err := key.ECDH(other)
	if err != nil {
		return [32]byte{}
	}
	return [32]byte(b)
}

// few are the points whose eighth multiple is none, as numbers below p: on the curve and on its twist.
func few(t *testing.T) []*big.Int {
	return []*big.Int{
		big.NewInt(0), big.NewInt(1), new(big.Int).Sub(prime, big.NewInt(1)),
		numberOf(of(t, "e0eb7a7c3b41b8ae1656e3faf19fc46ada098deb9c32b1fd866205165f49b800")),
		numberOf(of(t, "5f9c95bca3508c24b1d0b1559c83ef5b04445cc4581c8e86d8224eddd09f1157")),
	}
}

// forms are all 32 bytes that have a number modulo p for their coordinate.
func forms(n *big.Int) [][32]byte {
	var list [][32]byte
	for ; n.Cmp(power(255)) < 0; n = new(big.Int).Add(n, prime) {
		list = append(list, bytesOf(n), turned(bytesOf(n), 255))
	}
	return list
}

// edges are points about 0, p, 2^255 and 2^256, and powers of two.
func edges() [][32]byte {
	var list [][32]byte
	for _, middle := range []*big.Int{prime, power(51), power(64), power(128), power(192), power(254), power(255)} {
		for d := int64(-20); d <= 20; d++ {
			list = append(list, bytesOf(new(big.Int).Add(middle, big.NewInt(d))))
		}
	}
	for d := range int64(20) {
		list = append(list, bytesOf(big.NewInt(d)), bytesOf(new(big.Int).Sub(power(256), big.NewInt(d+1))))
	}
	return list
}

// secrets are such with all bits alike, one bit, all but one, and others.
func secrets() [][32]byte {
	list := texts(1, 10)
	none, all := [32]byte{}, bytesOf(new(big.Int).Sub(power(256), big.NewInt(1)))
	list = append(list, none, all)
	for _, bit := range []int{0, 1, 2, 3, 4, 7, 8, 63, 64, 127, 128, 247, 248, 252, 253, 254, 255} {
		list = append(list, turned(none, bit), turned(all, bit))
	}
	return list
}

// P6.1, P6.2: RFC 7748's examples of one multiplication; the second one's point has the bit 255 set.
func TestKnown(t *testing.T) {
	for i, c := range [][3]string{
		{"a546e36bf0527c9d3b16154b82465edd62144c0ac1fc5a18506a2244ba449ac4", "e6db6867583030db3594c1a424b15f7c726624ec26b3353b10a903a6d0ab1c4c", "c3da55379de9c6908e94ea4df28d084f32eccf03491c71f754b4075577a28552"},
		{"4b66e9d4d1b4673c5ad22691957d6af5c11b6421e0ea01d42ca4169e7918ba0d", "e5210f12786811d3f4b7959d0538ae2c31dbe7106fc03c3efc4cd549c715a493", "95cbde9476e8907d7aade45cb4b873f88b595a68799fa152e6f8f7647aac7957"},
	} {
		if got := ladder.Mul(of(t, c[0]), of(t, c[1])); got != of(t, c[2]) {
			t.Errorf("%d: %x", i+1, got)
		}
	}
}

// P6.2: RFC 7748's chain, in which each answer is the next secret, and each secret the next point.
func TestChain(t *testing.T) {
	secret, point := [32]byte{9}, [32]byte{9}
	for i := range 1000 {
		secret, point = ladder.Mul(secret, point), secret
		if i == 0 && secret != of(t, "422c8e7a6227d7bca1350b3e2bb7279f7897b87bb6854b783c60e80311ae3079") {
			t.Errorf("once: %x", secret)
		}
	}
	if secret != of(t, "684cf59ba83309552800ef566f2f4d3c1c3887c49360e3875f2eb94d99532c51") {
		t.Errorf("1000 times: %x", secret)
	}
}

// P6.3, P6.4: RFC 7748's two who share.
func TestTwo(t *testing.T) {
	a, b := of(t, "77076d0a7318a57d3c16c17251b26645df4c2f87ebc0992ab177fba51db92c2a"), of(t, "5dab087e624a8a4b79e17f8b83800ee66f3bb1292618b6fd1c2f8b27ff88e0eb")
	if got := ladder.Public(a); got != of(t, "8520f0098930a754748b7ddcb43ef75a0dbf3a0d26381af4eba4a98eaa9b4e6a") {
		t.Errorf("the first one's public key: %x", got)
	}
	if got := ladder.Public(b); got != of(t, "de9edb7d7b7dc1b4d35b61c2ece435373f8343c85b78674dadfc7e146f882b4f") {
		t.Errorf("the second one's public key: %x", got)
	}
	both := of(t, "4a5d9d5ba4ce2de1728e3bf480350f25e07e21c947d19e3376f09b3c1e161742")
	if got, is := ladder.Shared(a, ladder.Public(b)); got != both || !is {
		t.Errorf("the first one's: %x, %v", got, is)
	}
	if got, is := ladder.Shared(b, ladder.Public(a)); got != both || !is {
		t.Errorf("the second one's: %x, %v", got, is)
	}
}

// P6.1: a secret's bits 0, 1, 2, 254 and 255 do not tell, every other one does.
func TestScalar(t *testing.T) {
	for _, secret := range append(texts(2, 2), [32]byte{}) {
		was := ladder.Public(secret)
		for bit := range 256 {
			free := bit < 3 || bit > 253
			if got := ladder.Public(turned(secret, bit)); (got == was) != free {
				t.Errorf("%x: the bit %d: %x and %x", secret, bit, was, got)
			}
		}
		for some := range 32 {
			other := secret
			other[0] = other[0]&0xf8 | byte(some)&7
			other[31] = other[31]&0x3f | byte(some)>>3<<6
			if got := ladder.Public(other); got != was {
				t.Errorf("%x: %x, not %x", other, got, was)
			}
		}
	}
}

// P6.1: a point's bit 255 does not tell, every other one does.
func TestCoordinateBits(t *testing.T) {
	for i, point := range append(texts(3, 3), [32]byte{9}) {
		secret := texts(4, 1)[0]
		was := ladder.Mul(secret, point)
		for bit := range 256 {
			if got := ladder.Mul(secret, turned(point, bit)); (got == was) != (bit == 255) {
				t.Errorf("%d: the bit %d: %x and %x", i, bit, was, got)
			}
		}
	}
}

// P6.1: a point from p to 2^255 - 1 is the one that is p less, with the bit 255 or without it.
func TestCoordinateWraps(t *testing.T) {
	for _, secret := range texts(5, 3) {
		for n := range int64(19) {
			all := forms(big.NewInt(n))
			if len(all) != 4 {
				t.Fatalf("%d has %d forms", n, len(all))
			}
			want := worded(secret, all[0])
			for _, point := range all {
				if got := ladder.Mul(secret, point); got != want {
					t.Errorf("%x: %x, not %x", point, got, want)
				}
			}
		}
	}
}

// P6.1, P6.2: secrets and points at their ends, and others, as the chapter words it, and as the library tells.
func TestMul(t *testing.T) {
	points := append(texts(6, 10), [32]byte{9})
	try := func(secret, point [32]byte) {
		got := ladder.Mul(secret, point)
		if want := worded(secret, point); got != want {
			t.Errorf("%x, %x: %x, not %x", secret, point, got, want)
		}
		if want := library(t, secret, point); got != want {
			t.Errorf("%x, %x: %x, the library %x", secret, point, got, want)
		}
		if numberOf(got).Cmp(prime) >= 0 {
			t.Errorf("%x, %x: %x is not below p", secret, point, got)
		}
	}
	for _, secret := range secrets() {
		for _, point := range points {
			try(secret, point)
		}
	}
	for _, secret := range texts(7, 2) {
		for _, point := range edges() {
			try(secret, point)
		}
	}
}

// P6.2: many secrets and points, as the library tells.
func TestMany(t *testing.T) {
	all, points := texts(8, 2000), texts(9, 2000)
	for i := range all {
		got := ladder.Mul(all[i], points[i])
		if want := library(t, all[i], points[i]); got != want {
			t.Fatalf("%x, %x: %x, not %x", all[i], points[i], got, want)
		}
	}
}

// P6.2: 0 has no inverse but 0, so a point whose eighth multiple is none comes to 0, by any secret.
func TestFew(t *testing.T) {
	for _, n := range few(t) {
		for _, point := range forms(n) {
			for _, secret := range secrets() {
				if got := ladder.Mul(secret, point); got != [32]byte{} {
					t.Errorf("%x, %x: %x", secret, point, got)
				}
			}
		}
	}
}

// P6.3: a public key is Mul's of the point 9, and the library's.
func TestPublic(t *testing.T) {
	for _, secret := range secrets() {
		got := ladder.Public(secret)
		if want := ladder.Mul(secret, [32]byte{9}); got != want {
			t.Errorf("%x: %x, not %x", secret, got, want)
		}
		key, err := ecdh.X25519().NewPrivateKey(secret[:])
		if err != nil {
			t.Fatal(err)
		}
		if want := [32]byte(key.PublicKey().Bytes()); got != want {
			t.Errorf("%x: %x, the library %x", secret, got, want)
		}
	}
}

// P6.3: what is shared is Mul's, and no use just where it is 0.
func TestShared(t *testing.T) {
	points := append(texts(10, 10), edges()...)
	for _, n := range few(t) {
		points = append(points, forms(n)...)
	}
	useless := 0
	for _, secret := range texts(11, 3) {
		for _, point := range points {
			want := ladder.Mul(secret, point)
			got, is := ladder.Shared(secret, point)
			if got != want || is != (want != [32]byte{}) {
				t.Errorf("%x, %x: %x, %v, not %x", secret, point, got, is, want)
			}
			if !is {
				useless++
			}
		}
	}
	if useless == 0 || useless > 3*len(points)/2 {
		t.Errorf("%d are no use", useless)
	}
}

// P6.3: the chapter's example: nobody shares anything with 0; nor with the others of its kind.
func TestSharedNothing(t *testing.T) {
	for _, n := range few(t) {
		for _, point := range forms(n) {
			for _, secret := range secrets() {
				if got, is := ladder.Shared(secret, point); got != [32]byte{} || is {
					t.Errorf("%x, %x: %x, %v", secret, point, got, is)
				}
			}
		}
	}
}

// P6.3: one byte that is not 0, whichever it is, is enough to be of use.
func TestSharedOneByte(t *testing.T) {
	order, _ := new(big.Int).SetString("27742317777372353535851937790883648493", 10)
	order.Add(order, power(252))
	more := new(big.Int).Add(order, big.NewInt(1))
	secret := texts(17, 1)[0]
	// A point of just this order has its scalar's inverse undone by the scalar, so any such point can be asked for.
	inverse := new(big.Int).ModInverse(scalarOf(secret), order)
	for place := range uint(32) {
		point := new(big.Int)
		for n := int64(2); n < 128; n++ {
			point.Lsh(big.NewInt(n), 8*place)
			if climbed(more, point).Cmp(point) == 0 {
				break
			}
		}
		want := bytesOf(point)
		if got, is := ladder.Shared(secret, bytesOf(climbed(inverse, point))); got != want || !is {
			t.Errorf("the byte %d: %x, %v, not %x", place, got, is, want)
		}
	}
}

// P6.4: two share the same, secrets at their ends and others, and it is of use.
func TestSame(t *testing.T) {
	all := secrets()
	public := make([][32]byte, len(all))
	for i, secret := range all {
		public[i] = ladder.Public(secret)
	}
	for i := range all {
		for j := range i {
			x, is := ladder.Shared(all[i], public[j])
			y, also := ladder.Shared(all[j], public[i])
			if x != y || !is || !also {
				t.Errorf("%x and %x: %x, %v, and %x, %v", all[i], all[j], x, is, y, also)
			}
		}
	}
}

// P6.4: two secrets come to the same in either order from any point, one of the twist too, as some of these are; three do.
func TestOrder(t *testing.T) {
	all, points := texts(12, 3), append(texts(13, 20), edges()...)
	for _, point := range points {
		a := ladder.Mul(all[0], ladder.Mul(all[1], ladder.Mul(all[2], point)))
		b := ladder.Mul(all[2], ladder.Mul(all[0], ladder.Mul(all[1], point)))
		c := ladder.Mul(all[1], ladder.Mul(all[2], ladder.Mul(all[0], point)))
		if a != b || b != c {
			t.Errorf("%x: %x, %x, %x", point, a, b, c)
		}
	}
}

// P6.4: a third one does not share it.
func TestThird(t *testing.T) {
	all := texts(14, 3)
	x, _ := ladder.Shared(all[0], ladder.Public(all[1]))
	for _, secret := range [][32]byte{all[2], turned(all[0], 3), turned(all[0], 253), turned(all[0], 128)} {
		if y, _ := ladder.Shared(secret, ladder.Public(all[1])); x == y {
			t.Errorf("%x shares it too", secret)
		}
	}
}

// R4, R5: arguments stay as they were, and nothing of one call is kept for the next one.
func TestNothingKept(t *testing.T) {
	all := texts(15, 2)
	secret, point := all[0], all[1]
	was := ladder.Mul(secret, point)
	ladder.Shared(point, [32]byte{})
	ladder.Public(point)
	ladder.Shared(secret, point)
	if secret != all[0] || point != all[1] {
		t.Error("the arguments are changed")
	}
	if got := ladder.Mul(secret, point); got != was {
		t.Errorf("%x, then %x", was, got)
	}
}

func BenchmarkMul(b *testing.B) {
	all := texts(16, 2)
	for range b.N {
		ladder.Mul(all[0], all[1])
	}
}
