package edwards_test

import (
	"crypto/ed25519"
	"crypto/sha512"
	"encoding/hex"
	"math/big"
	"math/rand"
	"slices"
	"testing"

	"fardel/edwards"
	"fardel/field"
	"fardel/scalar"
)

// The library's own numbers: p, the order, and d as the chapter words it.
var (
	prime     = minus(power(255), big.NewInt(19))
	order     = numberOf(scalar.Order())
	curvature = divided(big.NewInt(-121665), big.NewInt(121666))
)

func power(n uint) *big.Int        { return new(big.Int).Lsh(big.NewInt(1), n) }
func wrapped(n *big.Int) *big.Int  { return new(big.Int).Mod(n, prime) }
func plus(a, b *big.Int) *big.Int  { return new(big.Int).Add(a, b) }
func minus(a, b *big.Int) *big.Int { return new(big.Int).Sub(a, b) }
func times(list ...*big.Int) *big.Int {
	product := big.NewInt(1)
	for _, n := range list {
		product = wrapped(new(big.Int).Mul(product, n))
	}
	return product
}

// divided is a quotient modulo p; the divisor must not be 0.
func divided(a, b *big.Int) *big.Int { return times(a, new(big.Int).ModInverse(wrapped(b), prime)) }

// bytesOf is a number below 2^256, the lowest byte first.
func bytesOf(n *big.Int) [32]byte {
	var b [32]byte
	n.FillBytes(b[:])
	slices.Reverse(b[:])
	return b
}

// numberOf is the number that bytes are, the lowest first.
func numberOf(b [32]byte) *big.Int {
	slices.Reverse(b[:])
	return new(big.Int).SetBytes(b[:])
}

// of are 32 bytes, told by two signs each.
func of(t *testing.T, signs string) [32]byte {
	t.Helper()
	b, err := hex.DecodeString(signs)
	if err != nil || len(b) != 32 {
		t.Fatalf("%q are no 32 bytes", signs)
	}
	return [32]byte(b)
}

// texts are 32 bytes so many times, the same ones in every run.
func texts(seed int64, many int) [][32]byte {
	source := rand.New(rand.NewSource(seed))
	list := make([][32]byte, many)
	for i := range list {
		source.Read(list[i][:])
	}
	return list
}

// small is a number of one byte.
func small(n byte) [32]byte { return [32]byte{n} }

// turned are the bytes with one bit turned.
func turned(b [32]byte, bit int) [32]byte {
	b[bit/8] ^= 1 << (bit % 8)
	return b
}

// pair is a point as the chapter words it: x and y, below p.
type pair struct{ x, y *big.Int }

var neutral = pair{big.NewInt(0), big.NewInt(1)}

// lies tells whether a pair is on the curve.
func (a pair) lies() bool {
	xx, yy := times(a.x, a.x), times(a.y, a.y)
	return wrapped(minus(yy, xx)).Cmp(wrapped(plus(big.NewInt(1), times(curvature, xx, yy)))) == 0
}

// with is Add as P7.2 words it.
func (a pair) with(b pair) pair {
	bend, one := times(curvature, a.x, b.x, a.y, b.y), big.NewInt(1)
	return pair{
		divided(plus(times(a.x, b.y), times(a.y, b.x)), plus(one, bend)),
		divided(plus(times(a.y, b.y), times(a.x, b.x)), minus(one, bend)),
	}
}

// many is Mul as P7.3 words it, from the lowest bit on.
func (a pair) many(count *big.Int) pair {
	sum := neutral
	for i := range count.BitLen() {
		if count.Bit(i) == 1 {
			sum = sum.with(a)
		}
		a = a.with(a)
	}
	return sum
}

// bytes are a pair's as P7.1 words it.
func (a pair) bytes() [32]byte {
	b := bytesOf(a.y)
	b[31] |= byte(a.x.Bit(0)) << 7
	return b
}

// worded is Decode as P7.1 words it.
func worded(b [32]byte) (pair, bool) {
	y := numberOf(b)
	bit := y.Bit(255)
	if y.SetBit(y, 255, 0); y.Cmp(prime) >= 0 {
		return neutral, false
	}
	yy, one := times(y, y), big.NewInt(1)
	x := new(big.Int).ModSqrt(divided(minus(yy, one), plus(times(curvature, yy), one)), prime)
	if x == nil || x.Sign() == 0 && bit == 1 {
		return neutral, false
	}
	if x.Bit(0) != bit {
		x.Sub(prime, x)
	}
	return pair{x, y}, true
}

// pairOf is a point by its places, each of which must be below p.
func pairOf(p edwards.Point) pair {
	x, y := p.Places()
	return pair{numberOf(x.Bytes()), numberOf(y.Bytes())}
}

// expect holds a point against what it should be, by all that it tells of itself.
func expect(t *testing.T, what string, got edwards.Point, want pair) {
	t.Helper()
	places := pairOf(got)
	if places.x.Cmp(want.x) != 0 || places.y.Cmp(want.y) != 0 {
		t.Fatalf("%s: %x, %x, not %x, %x", what, places.x, places.y, want.x, want.y)
	}
	if !places.lies() {
		t.Fatalf("%s: %x, %x is not on the curve", what, places.x, places.y)
	}
	if b := got.Bytes(); b != want.bytes() {
		t.Fatalf("%s: the bytes %x, not %x", what, b, want.bytes())
	}
}

// point is the one that bytes are.
func point(t *testing.T, b [32]byte) edwards.Point {
	t.Helper()
	p, is := edwards.Decode(b)
	if !is {
		t.Fatalf("%x is no point", b)
	}
	return p
}

// same fails if two points are not the same, however they are asked.
func same(t *testing.T, what string, p, q edwards.Point) {
	t.Helper()
	if !edwards.Same(p, q) || !edwards.Same(q, p) || p.Bytes() != q.Bytes() {
		t.Fatalf("%s: %x and %x", what, p.Bytes(), q.Bytes())
	}
	ax, ay := p.Places()
	bx, by := q.Places()
	if !field.Same(ax, bx) || !field.Same(ay, by) {
		t.Fatalf("%s: %x: the places are not the same", what, p.Bytes())
	}
}

// few are the eight points whose eighth multiple is the neutral one.
func few(t *testing.T) []edwards.Point {
	eighth := point(t, of(t, "26e8958fc2b227b045c3f489f2ef98f0d5dfac05d3c63339b13802886d53fc05"))
	list := []edwards.Point{{}}
	for range 7 {
		list = append(list, edwards.Add(list[len(list)-1], eighth))
	}
	return list
}

// others are points of no known multiple of the base point, of the whole group as well as of the base point's part.
func others(t *testing.T, seed int64, many int) []edwards.Point {
	var list []edwards.Point
	for _, b := range texts(seed, 20*many) {
		if p, is := edwards.Decode(b); is && len(list) < many {
			list = append(list, p)
		}
	}
	if len(list) < many {
		t.Fatalf("%d points", len(list))
	}
	return list
}

// kinds are points of all kinds: of few, the base point, its opposite, sums of both, and others.
func kinds(t *testing.T, seed int64) []edwards.Point {
	base := edwards.Base()
	list := append(few(t), base, edwards.Neg(base), edwards.Add(base, base))
	return append(append(list, edwards.Add(base, few(t)[1]), edwards.Add(base, few(t)[4])), others(t, seed, 4)...)
}

// counts are numbers of times: 0 and on, about the order and its multiples, about powers of two, the greatest, and others.
func counts(seed int64) [][32]byte {
	list := texts(seed, 4)
	for n := range byte(20) {
		list = append(list, small(n))
	}
	for _, middle := range []*big.Int{order, new(big.Int).Lsh(order, 1), new(big.Int).Lsh(order, 3), prime, power(8), power(64), power(128), power(252), power(255)} {
		for d := int64(-1); d <= 1; d++ {
			list = append(list, bytesOf(plus(middle, big.NewInt(d))))
		}
	}
	return append(list, bytesOf(minus(power(256), big.NewInt(1))), bytesOf(minus(power(256), big.NewInt(2))))
}

// The test's own d is what RFC 8032 writes out.
func TestCurvature(t *testing.T) {
	want, _ := new(big.Int).SetString("37095705934669439343138083508754565189542113879843219016388785533085940283555", 10)
	if curvature.Cmp(want) != 0 {
		t.Errorf("%v", curvature)
	}
}

// P7.1: the chapter's examples.
func TestExamples(t *testing.T) {
	want := [32]byte{88}
	for i := range 31 {
		want[i+1] = 102
	}
	if got := edwards.Base().Bytes(); got != want {
		t.Errorf("the base point: %x", got)
	}
	if p, is := edwards.Decode(small(1)); !is || !edwards.Same(p, edwards.Point{}) {
		t.Errorf("1: %x, %v", p.Bytes(), is)
	}
	if p, is := edwards.Decode(turned(small(1), 255)); is || !edwards.Same(p, edwards.Point{}) {
		t.Errorf("1, and the bit 255: %x, %v", p.Bytes(), is)
	}
	same(t, "the order times", edwards.Mul(scalar.Order(), edwards.Base()), edwards.Point{})
}

// P7.1: as Go makes it a point is the neutral one, in each call.
func TestAsGoMakesIt(t *testing.T) {
	var none edwards.Point
	expect(t, "itself", none, neutral)
	expect(t, "its opposite", edwards.Neg(none), neutral)
	expect(t, "twice", edwards.Add(none, none), neutral)
	expect(t, "decoded", point(t, none.Bytes()), neutral)
	for _, count := range counts(1) {
		expect(t, "many", edwards.Mul(count, none), neutral)
		expect(t, "both", edwards.Both(count, none, count, none), neutral)
	}
	for _, p := range kinds(t, 2) {
		same(t, "in front", edwards.Add(none, p), p)
		same(t, "behind", edwards.Add(p, none), p)
	}
}

// P7.3: the base point's y is 4 through 5, its x is even, and both are what RFC 8032 writes out.
func TestBase(t *testing.T) {
	x, _ := new(big.Int).SetString("15112221349535400772501151409588531511454012693041857206046113283949847762202", 10)
	y := divided(big.NewInt(4), big.NewInt(5))
	if x.Bit(0) != 0 {
		t.Fatal("x is odd")
	}
	expect(t, "the base point", edwards.Base(), pair{x, y})
	same(t, "decoded", point(t, bytesOf(y)), edwards.Base())
}

// tryDecode holds Decode against the chapter's words, and tells whether there is a point.
func tryDecode(t *testing.T, b [32]byte) bool {
	t.Helper()
	want, should := worded(b)
	got, is := edwards.Decode(b)
	if is != should {
		t.Fatalf("%x: %v", b, is)
	}
	expect(t, "decoded", got, want)
	if is && got.Bytes() != b {
		t.Fatalf("%x: %x", b, got.Bytes())
	}
	if !is && !edwards.Same(got, edwards.Point{}) {
		t.Fatalf("%x: false, and not the neutral point", b)
	}
	return is
}

// P7.1: any bytes, with the bit 255 and without it: about half are points, as the chapter words it.
func TestDecode(t *testing.T) {
	var found, all int
	for _, b := range texts(3, 500) {
		for _, b := range [][32]byte{b, turned(b, 255)} {
			all++
			if tryDecode(t, b) {
				found++
			}
		}
	}
	if found < all/3 || found > all*2/3 {
		t.Errorf("%d of %d are points", found, all)
	}
}

// P7.1: y about 0, p, 2^255 and powers of two.
func TestDecodeEdges(t *testing.T) {
	for _, middle := range []*big.Int{power(8), power(64), power(128), power(192), power(254), prime, power(255), plus(power(255), power(64))} {
		for d := int64(-64); d <= 64; d++ {
			b := bytesOf(plus(middle, big.NewInt(d)))
			tryDecode(t, b)
			tryDecode(t, turned(b, 255))
		}
	}
	for d := range byte(255) {
		tryDecode(t, small(d))
		tryDecode(t, turned(small(d), 255))
	}
}

// P7.1: no y from p on is told, though what it is modulo p may be a point's.
func TestDecodeBelow(t *testing.T) {
	points := 0
	for n := range int64(19) {
		low := bytesOf(big.NewInt(n))
		high := bytesOf(plus(prime, big.NewInt(n)))
		for _, b := range [][32]byte{high, turned(high, 255)} {
			if p, is := edwards.Decode(b); is || !edwards.Same(p, edwards.Point{}) {
				t.Errorf("%x: %x, %v", b, p.Bytes(), is)
			}
		}
		if _, is := edwards.Decode(low); is {
			points++
		}
	}
	if points < 5 {
		t.Errorf("only %d would be points", points)
	}
	if _, is := edwards.Decode(bytesOf(minus(prime, big.NewInt(1)))); !is {
		t.Error("p - 1 is no point")
	}
}

// P7.1: x is 0 at 1 and p - 1 alone, and has no odd form there; at 0 it has both.
func TestDecodeSign(t *testing.T) {
	low, high := small(1), bytesOf(minus(prime, big.NewInt(1)))
	for _, b := range [][32]byte{low, high} {
		x, _ := point(t, b).Places()
		if !field.Same(x, field.Fe{}) {
			t.Errorf("%x: x is %x", b, x.Bytes())
		}
		if p, is := edwards.Decode(turned(b, 255)); is || !edwards.Same(p, edwards.Point{}) {
			t.Errorf("%x, and the bit 255: %x, %v", b, p.Bytes(), is)
		}
	}
	even, odd := point(t, [32]byte{}), point(t, turned([32]byte{}, 255))
	same(t, "of the y 0", even, edwards.Neg(odd))
	if edwards.Same(even, odd) {
		t.Error("both points of the y 0 are the same")
	}
}

// P7.1: bytes are decoded as the point that they were told of, whatever was reckoned to come to it; the bit 255 is x's.
func TestBytes(t *testing.T) {
	odd := 0
	for _, p := range kinds(t, 4) {
		for range 20 {
			b := p.Bytes()
			same(t, "decoded", point(t, b), p)
			x, y := p.Places()
			if field.Odd(x) != (b[31]>>7 == 1) {
				t.Errorf("%x: x is %x", b, x.Bytes())
			}
			if field.Odd(x) {
				odd++
			}
			b[31] &= 0x7f
			if y.Bytes() != b {
				t.Errorf("%x: y is %x", b, y.Bytes())
			}
			p = edwards.Add(p, edwards.Base())
		}
	}
	if odd == 0 {
		t.Error("no x was odd")
	}
}

// P7.2: sums of points of all kinds, each with itself and with its opposite too, as the chapter words it.
func TestAdd(t *testing.T) {
	all := kinds(t, 5)
	for _, p := range all {
		for _, q := range all {
			expect(t, "the sum", edwards.Add(p, q), pairOf(p).with(pairOf(q)))
			expect(t, "the difference", edwards.Add(p, edwards.Neg(q)), pairOf(p).with(pairOf(edwards.Neg(q))))
		}
	}
	list := others(t, 6, 200)
	for i := range len(list) - 1 {
		expect(t, "the sum", edwards.Add(list[i], list[i+1]), pairOf(list[i]).with(pairOf(list[i+1])))
		expect(t, "twice", edwards.Add(list[i], list[i]), pairOf(list[i]).with(pairOf(list[i])))
	}
}

// P7.2: a long run of sums, none of which is lost.
func TestRun(t *testing.T) {
	step := others(t, 7, 1)[0]
	sum, want := edwards.Point{}, neutral
	for range 1000 {
		sum, want = edwards.Add(sum, step), want.with(pairOf(step))
		expect(t, "the run", sum, want)
	}
	same(t, "1000 times", edwards.Mul([32]byte{232, 3}, step), sum)
}

// P7.2: an opposite has the opposite x, and the same y.
func TestNeg(t *testing.T) {
	for _, p := range append(kinds(t, 8), others(t, 9, 100)...) {
		at := pairOf(p)
		expect(t, "the opposite", edwards.Neg(p), pair{wrapped(new(big.Int).Neg(at.x)), at.y})
		same(t, "the opposite's", edwards.Neg(edwards.Neg(p)), p)
	}
}

// P7.2: points are the same just if both coordinates are: not with one of them alone.
func TestSame(t *testing.T) {
	all := append(kinds(t, 10), others(t, 11, 20)...)
	half := few(t)[4] // 0, p - 1: its sum with x, y is the opposites of both
	for _, p := range all[:len(all):len(all)] {
		all = append(all, edwards.Neg(p), edwards.Add(p, half), edwards.Neg(edwards.Add(p, half)))
	}
	var oneX, oneY int
	for _, p := range all {
		for _, q := range all {
			a, b := pairOf(p), pairOf(q)
			x, y := a.x.Cmp(b.x) == 0, a.y.Cmp(b.y) == 0
			if got := edwards.Same(p, q); got != (x && y) {
				t.Errorf("%x and %x: %v", p.Bytes(), q.Bytes(), got)
			}
			if x && !y {
				oneX++
			}
			if y && !x {
				oneY++
			}
		}
	}
	if oneX == 0 || oneY == 0 {
		t.Errorf("%d and %d share one coordinate", oneX, oneY)
	}
}

// P7.3: numbers of times at their ends, and others, of points of all kinds, as the chapter words it.
func TestMul(t *testing.T) {
	for _, p := range kinds(t, 12) {
		for _, count := range counts(13) {
			expect(t, "many", edwards.Mul(count, p), pairOf(p).many(numberOf(count)))
		}
	}
}

// P7.3: each bit of the number adds as many as it is worth, and all are read.
func TestMulBits(t *testing.T) {
	for _, p := range append(others(t, 14, 2), edwards.Base()) {
		all := bytesOf(minus(power(256), big.NewInt(1)))
		whole := edwards.Mul(all, p)
		worth := p
		for bit := range 256 {
			same(t, "one bit", edwards.Mul(turned([32]byte{}, bit), p), worth)
			same(t, "all but one", edwards.Mul(turned(all, bit), p), edwards.Add(whole, edwards.Neg(worth)))
			worth = edwards.Add(worth, worth)
		}
	}
}

// P7.3: so many p are so many sums.
func TestMulSmall(t *testing.T) {
	for _, p := range kinds(t, 15) {
		sum := edwards.Point{}
		for n := range 256 {
			same(t, "many", edwards.Mul(small(byte(n)), p), sum)
			sum = edwards.Add(sum, p)
		}
		same(t, "256 times", edwards.Mul([32]byte{0, 1}, p), sum)
	}
}

// P7.3: the library's public keys are the base point so many times.
func TestLibrary(t *testing.T) {
	for _, seed := range texts(16, 500) {
		key := ed25519.NewKeyFromSeed(seed[:]).Public().(ed25519.PublicKey)
		digest := sha512.Sum512(seed[:])
		count := [32]byte(digest[:32])
		count[0] &= 0xf8
		count[31] = count[31]&0x7f | 0x40
		if got := edwards.Mul(count, edwards.Base()).Bytes(); got != [32]byte(key) {
			t.Fatalf("%x: %x, not %x", seed, got, key)
		}
	}
}

// P7.3: the library's signatures hold: S base points are R and k public keys together.
func TestLibrarySigns(t *testing.T) {
	for _, seed := range texts(17, 100) {
		private := ed25519.NewKeyFromSeed(seed[:])
		public := private.Public().(ed25519.PublicKey)
		text := seed[:7]
		signed := ed25519.Sign(private, text)
		digest := sha512.Sum512(slices.Concat(signed[:32], public, text))
		k := scalar.Reduce(digest)
		away := edwards.Neg(point(t, [32]byte(public)))
		got := edwards.Both([32]byte(signed[32:]), edwards.Base(), k, away)
		if got.Bytes() != [32]byte(signed[:32]) {
			t.Fatalf("%x: %x, not %x", seed, got.Bytes(), signed[:32])
		}
	}
}

// P7.3: both multiples together, of points of all kinds, the same and opposite ones too.
func TestBoth(t *testing.T) {
	all := kinds(t, 18)
	numbers := texts(19, len(all))
	for i, p := range all {
		for j, q := range all {
			a, b := numbers[i], numbers[j]
			want := edwards.Add(edwards.Mul(a, p), edwards.Mul(b, q))
			same(t, "both", edwards.Both(a, p, b, q), want)
			same(t, "the other way", edwards.Both(b, q, a, p), want)
		}
		expect(t, "as worded", edwards.Both(numbers[0], p, numbers[i], all[9]), pairOf(p).many(numberOf(numbers[0])).with(pairOf(all[9]).many(numberOf(numbers[i]))))
	}
}

// P7.3: both at the numbers' ends, where one adds nothing, or undoes the other.
func TestBothEdges(t *testing.T) {
	list := others(t, 20, 2)
	p, q := list[0], list[1]
	for _, a := range counts(21) {
		same(t, "the second none", edwards.Both(a, p, [32]byte{}, q), edwards.Mul(a, p))
		same(t, "the first none", edwards.Both([32]byte{}, p, a, q), edwards.Mul(a, q))
		same(t, "opposite", edwards.Both(a, p, a, edwards.Neg(p)), edwards.Point{})
		same(t, "twice", edwards.Both(a, p, a, p), edwards.Mul(a, edwards.Add(p, p)))
		for _, b := range counts(22)[:8] {
			same(t, "both", edwards.Both(a, p, b, q), edwards.Add(edwards.Mul(a, p), edwards.Mul(b, q)))
		}
	}
}

// P7.4: as many base points as the order are the neutral one, and fewer are not, as the order is a prime.
func TestOrder(t *testing.T) {
	base := edwards.Base()
	if !order.ProbablyPrime(20) {
		t.Fatal("the order is no prime")
	}
	expect(t, "the order times", edwards.Mul(scalar.Order(), base), neutral)
	for n := range byte(200) {
		more := edwards.Mul(bytesOf(plus(order, big.NewInt(int64(n)))), base)
		same(t, "more", more, edwards.Mul(small(n), base))
		less := edwards.Mul(bytesOf(minus(order, big.NewInt(int64(n)))), base)
		same(t, "less", less, edwards.Neg(edwards.Mul(small(n), base)))
		if n > 0 && edwards.Same(more, edwards.Point{}) {
			t.Errorf("%d base points are the neutral one", n)
		}
	}
}

// P7.4: the group has eight times as many points as the order: the eight whose eighth multiple is the neutral one are others, and no other point is brought to the neutral one by less.
func TestFew(t *testing.T) {
	list := few(t)
	for i, p := range list {
		for j, q := range list {
			if edwards.Same(p, q) != (i == j) {
				t.Errorf("%d and %d: %v", i, j, i != j)
			}
			same(t, "around", edwards.Add(p, q), list[(i+j)%8])
		}
		same(t, "eight times", edwards.Mul(small(8), p), edwards.Point{})
	}
	whole := bytesOf(new(big.Int).Lsh(order, 3))
	outside := 0
	for _, p := range others(t, 23, 40) {
		same(t, "eight times the order", edwards.Mul(whole, p), edwards.Point{})
		if edwards.Same(edwards.Mul(small(8), p), edwards.Point{}) {
			t.Errorf("%x is one of few", p.Bytes())
		}
		if !edwards.Same(edwards.Mul(scalar.Order(), p), edwards.Point{}) {
			outside++
		}
	}
	if outside == 0 {
		t.Error("all are multiples of the base point")
	}
}

// P7.4: the laws of a group, and those of multiples.
func TestGroup(t *testing.T) {
	all := kinds(t, 24)
	numbers := texts(25, 2)
	a, b := numbers[0], numbers[1]
	a[31] &= 0x7f
	b[31] &= 0x7f
	sum := bytesOf(plus(numberOf(a), numberOf(b)))
	for _, p := range all {
		same(t, "an opposite", edwards.Add(p, edwards.Neg(p)), edwards.Point{})
		same(t, "numbers together", edwards.Mul(sum, p), edwards.Add(edwards.Mul(a, p), edwards.Mul(b, p)))
		same(t, "one behind the other", edwards.Mul(a, edwards.Mul(b, p)), edwards.Mul(b, edwards.Mul(a, p)))
		same(t, "of an opposite", edwards.Mul(a, edwards.Neg(p)), edwards.Neg(edwards.Mul(a, p)))
		for _, q := range all {
			same(t, "in either order", edwards.Add(p, q), edwards.Add(q, p))
			same(t, "of a sum", edwards.Neg(edwards.Add(p, q)), edwards.Add(edwards.Neg(p), edwards.Neg(q)))
			for _, r := range all {
				same(t, "grouped", edwards.Add(edwards.Add(p, q), r), edwards.Add(p, edwards.Add(q, r)))
			}
		}
	}
	p, q := all[len(all)-1], all[len(all)-2]
	same(t, "of both", edwards.Mul(a, edwards.Add(p, q)), edwards.Both(a, p, a, q))
}

// P7.4: what two reckon of one base point by each other's numbers is the same, modulo the order too.
func TestProducts(t *testing.T) {
	for _, a := range texts(26, 5) {
		for _, b := range texts(27, 5) {
			product := scalar.MulAdd(a, b, [32]byte{})
			want := edwards.Mul(product, edwards.Base())
			same(t, "a product", edwards.Mul(a, edwards.Mul(b, edwards.Base())), want)
		}
	}
}

// R4, R5: arguments stay as they were, and nothing of one call is kept for the next one.
func TestNothingKept(t *testing.T) {
	numbers, points := texts(28, 2), others(t, 29, 2)
	a, b, p, q := numbers[0], numbers[1], points[0], points[1]
	was, of := edwards.Both(a, p, b, q), [2][32]byte{p.Bytes(), q.Bytes()}
	edwards.Mul(b, p)
	edwards.Decode(a)
	edwards.Decode([32]byte{2})
	edwards.Add(q, edwards.Base())
	edwards.Neg(q)
	if a != numbers[0] || b != numbers[1] || of != [2][32]byte{p.Bytes(), q.Bytes()} {
		t.Error("the arguments are changed")
	}
	same(t, "again", edwards.Both(a, p, b, q), was)
	bytes := of[0]
	edwards.Decode(turned(bytes, 255))
	same(t, "decoded", point(t, bytes), p)
}

func BenchmarkMul(b *testing.B) {
	count, p := texts(30, 1)[0], edwards.Base()
	for range b.N {
		edwards.Mul(count, p)
	}
}

func BenchmarkBoth(b *testing.B) {
	count, p := texts(31, 1)[0], edwards.Base()
	for range b.N {
		edwards.Both(count, p, count, p)
	}
}

func BenchmarkAdd(b *testing.B) {
	p := edwards.Base()
	for range b.N {
		edwards.Add(p, p)
	}
}
