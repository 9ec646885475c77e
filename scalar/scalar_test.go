package scalar_test

import (
	"math/big"
	"math/rand"
	"slices"
	"testing"

	"fardel/scalar"
)

// order is L as the chapter writes it, by the library's own numbers, which all tests here hold the package against.
var order = plus(power(252), number("27742317777372353535851937790883648493"))

func number(digits string) *big.Int {
	n, fine := new(big.Int).SetString(digits, 10)
	if !fine {
		panic(digits)
	}
	return n
}

func power(n uint) *big.Int              { return new(big.Int).Lsh(big.NewInt(1), n) }
func plus(a, b *big.Int) *big.Int        { return new(big.Int).Add(a, b) }
func times(a, b *big.Int) *big.Int       { return new(big.Int).Mul(a, b) }
func above(a *big.Int, d int64) *big.Int { return plus(a, big.NewInt(d)) }

// wrapped is a number modulo L, from 0 on.
func wrapped(n *big.Int) *big.Int { return new(big.Int).Mod(n, order) }

// narrow is a number below 2^256, the lowest byte first.
func narrow(n *big.Int) [32]byte {
	var b [32]byte
	n.FillBytes(b[:])
	slices.Reverse(b[:])
	return b
}

// wide is a number below 2^512, the lowest byte first.
func wide(n *big.Int) [64]byte {
	var b [64]byte
	n.FillBytes(b[:])
	slices.Reverse(b[:])
	return b
}

// patterns are numbers whose words of 64 bits are at their ends, so that carries and borrows go all the way.
func patterns(words int) []*big.Int {
	ends := []*big.Int{big.NewInt(0), big.NewInt(1), above(power(64), -1)}
	list := []*big.Int{big.NewInt(0)}
	for i := range uint(words) {
		var longer []*big.Int
		for _, n := range list {
			for _, w := range ends {
				longer = append(longer, plus(n, new(big.Int).Lsh(w, 64*i)))
			}
		}
		list = longer
	}
	return list
}

// about are the numbers around some, where they are 0 or more and have at most so many bits.
func about(middles []*big.Int, bits int) []*big.Int {
	var list []*big.Int
	for _, m := range middles {
		for _, d := range []int64{-3, -2, -1, 0, 1, 2, 3, 5} {
			if n := above(m, d); n.Sign() >= 0 && n.BitLen() <= bits {
				list = append(list, n)
			}
		}
	}
	return list
}

// powers are those of two up to a number of so many bits, and L shifted so far.
func powers(bits uint) []*big.Int {
	var list []*big.Int
	for i := range bits + 1 {
		list = append(list, power(i), new(big.Int).Lsh(order, i))
	}
	return list
}

// multiples are L so many times, up to the greatest of so many bits.
func multiples(bits uint) []*big.Int {
	most := new(big.Int).Div(above(power(bits), -1), order)
	list := []*big.Int{times(most, order), times(above(most, -1), order)}
	for i := range int64(18) {
		list = append(list, times(big.NewInt(i), order))
	}
	for range bits {
		most = new(big.Int).Rsh(most, 1)
		list = append(list, times(most, order))
	}
	return list
}

// edges are numbers of at most so many bits where a division may go wrong.
func edges(bits uint) []*big.Int {
	list := patterns(4)
	list = append(list, about(powers(bits), int(bits))...)
	list = append(list, about(multiples(bits), int(bits))...)
	// One word of L changed at a time: a comparison must look at all of them.
	for i := range uint(4) {
		list = append(list, plus(order, power(64*i)), new(big.Int).Sub(order, power(64*i)))
	}
	return slices.DeleteFunc(list, func(n *big.Int) bool { return n.BitLen() > int(bits) })
}

// randoms are numbers of so many bits, the same ones in every run.
func randoms(seed int64, bits uint, count int) []*big.Int {
	source := rand.New(rand.NewSource(seed))
	var list []*big.Int
	for range count {
		list = append(list, new(big.Int).Rand(source, power(bits)))
	}
	return list
}

// P2.1: L, as its bytes.
func TestOrder(t *testing.T) {
	if got := scalar.Order(); got != narrow(order) {
		t.Errorf("%v, not %v", got, narrow(order))
	}
	// What is answered is new: changing it changes no later answer.
	first := scalar.Order()
	first[0]++
	if got := scalar.Order(); got != narrow(order) {
		t.Errorf("%v behind a change of an answer", got)
	}
}

// P2.1: whether a number is below L.
func TestFine(t *testing.T) {
	for _, n := range append(edges(256), randoms(1, 256, 500)...) {
		if got, want := scalar.Fine(narrow(n)), n.Cmp(order) < 0; got != want {
			t.Errorf("Fine(%v) is %v", n, got)
		}
	}
	for _, n := range randoms(2, 252, 100) {
		if !scalar.Fine(narrow(n)) {
			t.Errorf("Fine(%v) is false", n)
		}
	}
}

// P2.1: a number of 64 bytes modulo L.
func TestReduce(t *testing.T) {
	list := append(edges(512), patterns(8)...)
	list = append(list, randoms(3, 512, 2000)...)
	for _, n := range list {
		b := wide(n)
		if got, want := scalar.Reduce(b), narrow(wrapped(n)); got != want {
			t.Fatalf("Reduce(%v): %v, not %v", n, got, want)
		}
		if b != wide(n) {
			t.Fatal("what was handed in is changed")
		}
	}
}

// P2.1: a product and a number modulo L, of all numbers below 2^256, not of those below L alone.
func TestMulAdd(t *testing.T) {
	check := func(a, b, c *big.Int) {
		t.Helper()
		got := scalar.MulAdd(narrow(a), narrow(b), narrow(c))
		if want := narrow(wrapped(plus(times(a, b), c))); got != want {
			t.Fatalf("MulAdd(%v, %v, %v): %v, not %v", a, b, c, got, want)
		}
	}
	ends := patterns(4)
	for i, a := range ends {
		for j, b := range ends {
			check(a, b, ends[(i*7+j)%len(ends)])
		}
	}
	most := above(power(256), -1)
	for _, n := range edges(256) {
		check(n, n, n)
		check(n, most, most)
		check(most, n, big.NewInt(0))
		check(big.NewInt(1), big.NewInt(0), n)
		check(n, big.NewInt(1), above(order, -1))
	}
	list := randoms(4, 256, 3000)
	for i := 0; i+2 < len(list); i++ {
		check(list[i], list[i+1], list[i+2])
	}
}

// P2.1: the chapter's examples.
func TestExamples(t *testing.T) {
	if got := scalar.Reduce(wide(order)); got != [32]byte{} {
		t.Errorf("Reduce(L): %v", got)
	}
	if got := scalar.Reduce(wide(above(order, 5))); got != [32]byte{5} {
		t.Errorf("Reduce(L and 5): %v", got)
	}
	if got := scalar.MulAdd([32]byte{2}, [32]byte{3}, [32]byte{4}); got != [32]byte{10} {
		t.Errorf("MulAdd(2, 3, 4): %v", got)
	}
	if scalar.Fine(scalar.Order()) {
		t.Error("Fine(L)")
	}
}

// P2.2: the laws of a ring, told by the package's own calls alone.
func TestRing(t *testing.T) {
	zero, one := [32]byte{}, [32]byte{1}
	mul := func(a, b [32]byte) [32]byte { return scalar.MulAdd(a, b, zero) }
	add := func(a, b [32]byte) [32]byte { return scalar.MulAdd(a, one, b) }
	minusOne := scalar.Order()
	minusOne[0]--
	var list [][32]byte
	for _, n := range append(randoms(5, 256, 12), above(order, -1), order, above(order, 1), big.NewInt(0), big.NewInt(1), above(power(256), -1)) {
		list = append(list, narrow(n))
	}
	same := func(law string, a, b [32]byte) {
		t.Helper()
		if a != b {
			t.Fatalf("%s: %v and %v", law, a, b)
		}
		if !scalar.Fine(a) {
			t.Fatalf("%s: %v is not below L", law, a)
		}
	}
	for _, a := range list {
		reduced := add(a, zero)
		same("one", mul(a, one), reduced)
		same("one, from the left", mul(one, a), reduced)
		same("zero", add(zero, a), reduced)
		same("nothing times", mul(a, zero), zero)
		same("opposite", add(a, mul(a, minusOne)), zero)
		for _, b := range list {
			same("sums change places", add(a, b), add(b, a))
			same("products change places", mul(a, b), mul(b, a))
			same("a sum of reduced ones", add(a, b), add(reduced, add(b, zero)))
			same("a product of reduced ones", mul(a, b), mul(reduced, add(b, zero)))
			for _, c := range list {
				same("sums join", add(add(a, b), c), add(a, add(b, c)))
				same("products join", mul(mul(a, b), c), mul(a, mul(b, c)))
				same("products spread", mul(a, add(b, c)), add(mul(a, b), mul(a, c)))
				same("both at once", scalar.MulAdd(a, b, c), add(mul(a, b), c))
			}
		}
	}
}

// P2.1 and P2.2: Reduce and MulAdd are of one modulus: a wide number is its upper half 2^256 times, and its lower one.
func TestHalves(t *testing.T) {
	shift := narrow(wrapped(power(256)))
	for _, n := range randoms(6, 512, 300) {
		b := wide(n)
		low, high := [32]byte(b[:32]), [32]byte(b[32:])
		if got, want := scalar.MulAdd(high, shift, low), scalar.Reduce(b); got != want {
			t.Fatalf("%v: %v, not %v", n, got, want)
		}
	}
}
