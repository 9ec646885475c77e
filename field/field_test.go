package field_test

import (
	"math/big"
	"math/rand"
	"slices"
	"testing"

	"fardel/field"
)

// prime is p, by the library's own numbers, which all tests here hold the package against.
var prime = new(big.Int).Sub(power(255), big.NewInt(19))

func power(n uint) *big.Int { return new(big.Int).Lsh(big.NewInt(1), n) }

// wrapped is a number modulo p, from 0 on.
func wrapped(n *big.Int) *big.Int { return new(big.Int).Mod(n, prime) }

// bytesOf is a number below 2^256, the lowest byte first.
func bytesOf(n *big.Int) [32]byte {
	var b [32]byte
	n.FillBytes(b[:])
	slices.Reverse(b[:])
	return b
}

func load(n *big.Int) field.Fe { return field.Load(bytesOf(n)) }

func small(n int64) field.Fe { return load(wrapped(big.NewInt(n))) }

// expect holds a number against what it must be, modulo p.
func expect(t *testing.T, what string, got field.Fe, want *big.Int) {
	t.Helper()
	if b := bytesOf(wrapped(want)); got.Bytes() != b {
		t.Fatalf("%s: %v, not %v", what, got.Bytes(), b)
	}
}

// limbPatterns are numbers of 256 bits whose words of 64 bits are at their ends, so that carries go all the way.
func limbPatterns() []*big.Int {
	words := []*big.Int{big.NewInt(0), big.NewInt(1), new(big.Int).Sub(power(64), big.NewInt(1))}
	list := []*big.Int{big.NewInt(0)}
	for i := range uint(4) {
		var longer []*big.Int
		for _, n := range list {
			for _, w := range words {
				longer = append(longer, new(big.Int).Add(n, new(big.Int).Lsh(w, 64*i)))
			}
		}
		list = longer
	}
	return list
}

// edges are numbers of 256 bits about the modulus, its double, powers of two and the ends.
func edges() []*big.Int {
	list := limbPatterns()
	double := new(big.Int).Lsh(prime, 1)
	for _, middle := range []*big.Int{prime, double, power(51), power(63), power(64), power(128), power(192), power(254), power(255)} {
		for _, d := range []int64{-38, -20, -19, -18, -2, -1, 0, 1, 2, 18, 19, 20, 37} {
			list = append(list, new(big.Int).Add(middle, big.NewInt(d)))
		}
	}
	for d := range int64(40) {
		list = append(list, big.NewInt(d), new(big.Int).Sub(power(256), big.NewInt(d+1)))
	}
	return list
}

// randoms are numbers of 256 bits, the same ones in every run.
func randoms(seed int64, count int) []*big.Int {
	source := rand.New(rand.NewSource(seed))
	var list []*big.Int
	for range count {
		list = append(list, new(big.Int).Rand(source, power(256)))
	}
	return list
}

// P1.1: any number of 256 bits is loaded modulo p, and written below p.
func TestLoadAndBytes(t *testing.T) {
	for _, n := range append(edges(), randoms(1, 2000)...) {
		expect(t, "Load of "+n.String(), load(n), n)
	}
}

// P1.1: the chapter's example, and each number from p to 2^255 - 1.
func TestLoadAtTheModulus(t *testing.T) {
	b := bytesOf(prime)
	for i := range byte(19) {
		b[0] = 237 + i
		if got := field.Load(b).Bytes(); got != [32]byte{i} {
			t.Errorf("p and %d: %v", i, got)
		}
	}
}

// P1.1: each byte has its own place, both ways.
func TestEachByte(t *testing.T) {
	for i := range 32 {
		for _, value := range []byte{1, 0x55, 0x7f} {
			var b [32]byte
			b[i] = value
			if got := field.Load(b).Bytes(); got != b {
				t.Errorf("byte %d: %v", i, got)
			}
		}
	}
}

// P1.2: sums, differences and products of all pairs of edges.
func TestReckonEdges(t *testing.T) {
	list := append(edges(), randoms(2, 30)...)
	for _, m := range list {
		x := load(m)
		for _, n := range list {
			y := load(n)
			expect(t, m.String()+" + "+n.String(), field.Add(x, y), new(big.Int).Add(m, n))
			expect(t, m.String()+" - "+n.String(), field.Sub(x, y), new(big.Int).Sub(m, n))
			expect(t, m.String()+" * "+n.String(), field.Mul(x, y), new(big.Int).Mul(m, n))
		}
	}
}

// P1.2: squares, opposites and inverses.
func TestReckonOne(t *testing.T) {
	for _, n := range append(edges(), randoms(3, 200)...) {
		x := load(n)
		expect(t, "Square of "+n.String(), field.Square(x), new(big.Int).Mul(n, n))
		expect(t, "Neg of "+n.String(), field.Neg(x), new(big.Int).Neg(n))
		inverse := new(big.Int)
		if wrapped(n).Sign() != 0 {
			inverse.ModInverse(n, prime)
		}
		expect(t, "Inv of "+n.String(), field.Inv(x), inverse)
	}
}

// P1.2: the chapter's example, and 0, whichever way it came to be.
func TestZeroAndItsNeighbours(t *testing.T) {
	last := [32]byte{236}
	for i := 1; i < 31; i++ {
		last[i] = 255
	}
	last[31] = 127
	if got := field.Sub(small(0), small(1)).Bytes(); got != last {
		t.Errorf("0 - 1: %v", got)
	}
	zero := big.NewInt(0)
	for _, x := range []field.Fe{{}, small(0), load(prime), field.Add(small(-1), small(1)), field.Sub(small(7), small(7)), field.Neg(small(0)), field.Mul(small(0), small(-1))} {
		expect(t, "0", x, zero)
		expect(t, "Inv of 0", field.Inv(x), zero)
		expect(t, "Neg of 0", field.Neg(x), zero)
		if field.Odd(x) || !field.Same(x, field.Fe{}) {
			t.Error("0 is even, and the same")
		}
	}
}

// P1.2: an Fe as Go makes it is 0 on either side of each call.
func TestAsGoMakesIt(t *testing.T) {
	var made field.Fe
	for _, n := range edges() {
		x := load(n)
		expect(t, "0 + x", field.Add(made, x), n)
		expect(t, "x + 0", field.Add(x, made), n)
		expect(t, "0 - x", field.Sub(made, x), new(big.Int).Neg(n))
		expect(t, "x - 0", field.Sub(x, made), n)
		expect(t, "0 * x", field.Mul(made, x), new(big.Int))
		expect(t, "x * 0", field.Mul(x, made), new(big.Int))
		expect(t, "Pick of 0", field.Pick(made, x, true), new(big.Int))
		expect(t, "Pick of x", field.Pick(made, x, false), n)
		if field.Same(made, x) != (wrapped(n).Sign() == 0) {
			t.Errorf("0 and %v", n)
		}
	}
	if r, is := field.Ratio(made, made); !is || !field.Same(r, made) {
		t.Errorf("Ratio(0, 0): %v, %v", r.Bytes(), is)
	}
	expect(t, "Square of 0", field.Square(made), new(big.Int))
}

// chain is one number that calls made of others, and what it must be.
type chain struct {
	fe   field.Fe
	want *big.Int
}

// P1.2: results of earlier calls go into later ones, again and again.
func TestChains(t *testing.T) {
	source := rand.New(rand.NewSource(4))
	var list []chain
	for _, n := range append(edges()[:40], randoms(5, 24)...) {
		list = append(list, chain{load(n), wrapped(n)})
	}
	for range 60000 {
		a, b := list[source.Intn(len(list))], list[source.Intn(len(list))]
		fe, want := a.fe, new(big.Int)
		switch source.Intn(5) {
		case 0:
			fe, want = field.Add(a.fe, b.fe), want.Add(a.want, b.want)
		case 1:
			fe, want = field.Sub(a.fe, b.fe), want.Sub(a.want, b.want)
		case 2:
			fe, want = field.Mul(a.fe, b.fe), want.Mul(a.want, b.want)
		case 3:
			fe, want = field.Square(a.fe), want.Mul(a.want, a.want)
		case 4:
			fe, want = field.Neg(a.fe), want.Neg(a.want)
		}
		expect(t, "chain", fe, want)
		list[source.Intn(len(list))] = chain{fe, wrapped(want)}
	}
}

// P1.2: one number is doubled, raised and lowered so often that limbs which only grew would run over.
func TestLongRuns(t *testing.T) {
	m := new(big.Int).Sub(prime, big.NewInt(1))
	for _, n := range []*big.Int{big.NewInt(1), m, randoms(6, 1)[0]} {
		x, double, sum, less, opposite := load(n), load(n), load(n), load(n), load(n)
		for range 2000 {
			double = field.Add(double, double)
			sum = field.Add(sum, x)
			less = field.Sub(less, x)
			opposite = field.Neg(opposite)
		}
		expect(t, "doubled", double, new(big.Int).Mul(n, power(2000)))
		expect(t, "raised", sum, new(big.Int).Mul(n, big.NewInt(2001)))
		expect(t, "lowered", less, new(big.Int).Mul(n, big.NewInt(-1999)))
		expect(t, "turned", opposite, n)
	}
}

// evenRoot is what Ratio must answer, by the library's own roots.
func evenRoot(u, v *big.Int) (*big.Int, bool) {
	u, v = wrapped(u), wrapped(v)
	if u.Sign() == 0 {
		return u, true
	}
	if v.Sign() == 0 {
		return v, false
	}
	quotient := new(big.Int).ModInverse(v, prime)
	quotient = wrapped(quotient.Mul(quotient, u))
	root := new(big.Int).ModSqrt(quotient, prime)
	if root == nil {
		return new(big.Int), false
	}
	if root.Bit(0) == 1 {
		root.Sub(prime, root)
	}
	return root, true
}

func expectRatio(t *testing.T, u, v *big.Int) bool {
	t.Helper()
	root, is := evenRoot(u, v)
	r, ok := field.Ratio(load(u), load(v))
	if ok != is {
		t.Fatalf("Ratio(%v, %v): %v, not %v", u, v, ok, is)
	}
	expect(t, "Ratio("+u.String()+", "+v.String()+")", r, root)
	return is
}

// P1.3: pairs of all kinds; some have roots and some have none.
func TestRatio(t *testing.T) {
	list := append(randoms(7, 20), prime, new(big.Int).Lsh(prime, 1), new(big.Int).Sub(prime, big.NewInt(1)), new(big.Int).Sub(power(256), big.NewInt(1)))
	for n := range int64(21) {
		list = append(list, big.NewInt(n))
	}
	found := 0
	for _, u := range list {
		for _, v := range list {
			if expectRatio(t, u, v) {
				found++
			}
		}
	}
	if all := len(list) * len(list); found < all/3 || found > all*2/3 {
		t.Errorf("%d of %d have roots", found, all)
	}
}

// P1.3: the chapter's examples, and 0 on either side.
func TestRatioExamples(t *testing.T) {
	for _, c := range []struct {
		u, v, root int64
		is         bool
	}{{4, 1, 2, true}, {2, 1, 0, false}, {0, 0, 0, true}, {0, 1, 0, true}, {0, 2, 0, true}, {0, -1, 0, true}, {1, 0, 0, false}, {2, 0, 0, false}, {-1, 0, 0, false}, {1, 1, -1, true}, {9, 1, -3, true}, {16, 4, 2, true}, {-4, -1, 2, true}} {
		r, is := field.Ratio(small(c.u), small(c.v))
		if is != c.is {
			t.Errorf("Ratio(%d, %d): %v", c.u, c.v, is)
		}
		expect(t, "Ratio", r, big.NewInt(c.root))
	}
}

// P1.3: of r and its opposite the even one is told, and 0 beside a false; twice a square is never one, as 2 is none.
func TestRatioOfSquares(t *testing.T) {
	for _, n := range append(edges(), randoms(8, 100)...) {
		if wrapped(n).Sign() == 0 {
			continue
		}
		root := load(n)
		v := field.Add(field.Mul(root, small(5)), small(3))
		u := field.Mul(v, field.Square(root))
		if field.Same(v, field.Fe{}) {
			continue
		}
		r, is := field.Ratio(u, v)
		if !is || field.Odd(r) || !field.Same(r, root) && !field.Same(r, field.Neg(root)) {
			t.Fatalf("a root of %v: %v, %v", n, r.Bytes(), is)
		}
		if r, is := field.Ratio(field.Add(u, u), v); is || !field.Same(r, field.Fe{}) {
			t.Fatalf("twice the square of %v: %v, %v", n, r.Bytes(), is)
		}
	}
}

// P1.4: Pick answers either whole number, whatever bits both have.
func TestPick(t *testing.T) {
	list := append(edges(), randoms(9, 20)...)
	for i, m := range list {
		n := list[(i*7+3)%len(list)]
		x, y := load(m), load(n)
		expect(t, "Pick of the first", field.Pick(x, y, true), m)
		expect(t, "Pick of the second", field.Pick(x, y, false), n)
		expect(t, "the first, behind Pick", x, m)
		expect(t, "the second, behind Pick", y, n)
	}
}

// P1.4: Odd asks the number modulo p, not the bytes that were loaded.
func TestOdd(t *testing.T) {
	for _, n := range append(edges(), randoms(10, 200)...) {
		if got := field.Odd(load(n)); got != (wrapped(n).Bit(0) == 1) {
			t.Errorf("%v: %v", n, got)
		}
	}
}

// P1.4: numbers are the same modulo p; one that differs in a single bit is another.
func TestSame(t *testing.T) {
	list := append(edges(), randoms(11, 20)...)
	for _, m := range list {
		for _, n := range list {
			if got := field.Same(load(m), load(n)); got != (wrapped(m).Cmp(wrapped(n)) == 0) {
				t.Fatalf("%v, %v: %v", m, n, got)
			}
		}
	}
	n := randoms(12, 1)[0]
	for i := range 256 {
		turned := new(big.Int).SetBit(n, i, 1-n.Bit(i))
		if field.Same(load(n), load(turned)) {
			t.Errorf("bit %d", i)
		}
	}
}

// lawsOf holds three numbers against a field's laws.
func lawsOf(t *testing.T, x, y, z field.Fe) {
	t.Helper()
	zero, one := field.Fe{}, small(1)
	for i, pair := range [][2]field.Fe{
		{field.Add(x, y), field.Add(y, x)},
		{field.Mul(x, y), field.Mul(y, x)},
		{field.Add(field.Add(x, y), z), field.Add(x, field.Add(y, z))},
		{field.Mul(field.Mul(x, y), z), field.Mul(x, field.Mul(y, z))},
		{field.Mul(x, field.Add(y, z)), field.Add(field.Mul(x, y), field.Mul(x, z))},
		{field.Mul(x, field.Sub(y, z)), field.Sub(field.Mul(x, y), field.Mul(x, z))},
		{field.Add(x, zero), x},
		{field.Mul(x, one), x},
		{field.Add(x, field.Neg(x)), zero},
		{field.Sub(x, y), field.Add(x, field.Neg(y))},
		{field.Add(field.Sub(x, y), y), x},
		{field.Square(x), field.Mul(x, x)},
		{field.Inv(field.Inv(x)), x},
		{field.Inv(field.Mul(x, y)), field.Mul(field.Inv(x), field.Inv(y))},
	} {
		if !field.Same(pair[0], pair[1]) {
			t.Fatalf("law %d of %v, %v, %v", i, x.Bytes(), y.Bytes(), z.Bytes())
		}
	}
	if !field.Same(x, zero) && !field.Same(field.Mul(x, field.Inv(x)), one) {
		t.Fatalf("the inverse of %v", x.Bytes())
	}
}

// P1.5: the laws of a field, at edges and elsewhere.
func TestLaws(t *testing.T) {
	list := append(edges(), randoms(13, 200)...)
	for i := range list {
		lawsOf(t, load(list[i]), load(list[(i*5+1)%len(list)]), load(list[(i*11+2)%len(list)]))
	}
}
