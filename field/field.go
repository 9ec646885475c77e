// Package field is layer 1: numbers modulo p = 2^255 - 19: see shared/doc/01-field.md.
package field

import "math/bits"

// count is how many limbs of 64 bits a number has.
const count = 4

// low63 are the bits of the last limb that a number below 2^255 may have.
const low63 = 1<<63 - 1

// Fe is a number modulo p; as it is made it is 0.
//
// The limbs, the lowest first, are a number below p after every call, so that one number has one form and Bytes, Odd and Same need not reckon.
type Fe struct {
	limbs [count]uint64
}

// Load is the number that bytes are, the lowest first.
func Load(b [32]byte) Fe {
	var limbs [count]uint64
	for i := range 32 {
		limbs[i/8] |= uint64(b[i]) << (i % 8 * 8)
	}
	return settle(limbs, 0)
}

// Bytes are a number's, the lowest first.
func (x Fe) Bytes() [32]byte {
	var b [32]byte
	for i := range 32 {
		b[i] = byte(x.limbs[i/8] >> (i % 8 * 8))
	}
	return b
}

// Add is the sum. Two numbers below p are less than 2^256 together, so nothing is carried out of the last limb.
func Add(x, y Fe) Fe {
	var carry uint64
	for i := range count {
		x.limbs[i], carry = bits.Add64(x.limbs[i], y.limbs[i], carry)
	}
	return settle(x.limbs, 0)
}

// Sub is the difference. What is borrowed at the end is 2^256 too much, which is 38 modulo p; the limbs are more than 2^256 - p then, so that 38 can be taken off without another borrow.
func Sub(x, y Fe) Fe {
	var borrow uint64
	for i := range count {
		x.limbs[i], borrow = bits.Sub64(x.limbs[i], y.limbs[i], borrow)
	}
	less := 38 * borrow
	for i := range count {
		x.limbs[i], less = bits.Sub64(x.limbs[i], less, 0)
	}
	return settle(x.limbs, 0)
}

// Mul is the product.
func Mul(x, y Fe) Fe {
	var carry uint64
	// A product of two limbs, with a limb and the carry, fits two limbs: the lower half is told, the upper one is the next carry.
	halves := func(a, b, more uint64) uint64 {
		high, low := bits.Mul64(a, b)
		low, over := bits.Add64(low, more, 0)
		high += over
		low, over = bits.Add64(low, carry, 0)
		carry = high + over
		return low
	}
	var wide [2 * count]uint64
	for i := range count {
		carry = 0
		for j := range count {
			wide[i+j] = halves(x.limbs[i], y.limbs[j], wide[i+j])
		}
		wide[i+count] = carry
	}
	// The upper four limbs are that many times 2^256, which is 38 modulo p.
	carry = 0
	var limbs [count]uint64
	for i := range count {
		limbs[i] = halves(wide[i+count], 38, wide[i])
	}
	return settle(limbs, carry)
}

// Square is a number times itself.
func Square(x Fe) Fe { return Mul(x, x) }

// Neg is 0 less a number.
func Neg(x Fe) Fe { return Sub(Fe{}, x) }

// Inv is the inverse, 0 of 0: x to the power of p - 2, which is 32 (2^250 - 1) + 11.
func Inv(x Fe) Fe {
	eleven := Mul(squares(x, 3), Mul(Square(x), x))
	return Mul(squares(power250(x), 5), eleven)
}

// Ratio is the even root of u through v, and whether there is one.
//
// As p is 5 modulo 8, u v^3 (u v^7)^((p-5)/8) is a root of u through v, or of its opposite, if there is a root at all.
func Ratio(u, v Fe) (Fe, bool) {
	cube := Mul(Square(v), v)
	base := Mul(u, Mul(Square(cube), v))
	root := Mul(Mul(u, cube), Mul(squares(power250(base), 2), base))
	found := Mul(v, Square(root))
	if Same(found, Neg(u)) {
		root, found = Mul(root, rootOfMinusOne()), Neg(found)
	}
	if !Same(found, u) {
		return Fe{}, false
	}
	return Pick(Neg(root), root, Odd(root)), true
}

// rootOfMinusOne is 2 to the power of (p - 1) / 4: its square is p - 1, as 2 is no square.
func rootOfMinusOne() Fe {
	return Fe{[count]uint64{0xc4ee1b274a0ea0b0, 0x2f431806ad2fe478, 0x2b4d00993dfbd7a7, 0x2b8324804fc1df0b}}
}

// Pick is the first number, or the second one. Both are read whole and mixed by a mask, as layers above pick by the bits of secrets.
func Pick(x, y Fe, first bool) Fe {
	var bit uint64
	if first {
		bit = 1
	}
	for i := range count {
		y.limbs[i] ^= -bit & (x.limbs[i] ^ y.limbs[i])
	}
	return y
}

// Odd tells whether a number is odd.
func Odd(x Fe) bool { return x.limbs[0]&1 == 1 }

// Same tells whether two numbers are the same.
func Same(x, y Fe) bool { return x.limbs == y.limbs }

// settle is over times 2^256, and limbs, modulo p; over is less than 2^58.
func settle(limbs [count]uint64, over uint64) Fe {
	// 2^255 is 19 modulo p, so what is above comes back below; the number is less than p + 2^64 then.
	above := over<<1 | limbs[count-1]>>63
	limbs[count-1] &= low63
	limbs = raise(limbs, 19*above)
	// The number is p or more just if 19 more reach 2^255; less p it is then what is below that bit.
	reached := raise(limbs, 19)[count-1] >> 63
	limbs = raise(limbs, 19*reached)
	limbs[count-1] &= low63
	return Fe{limbs}
}

// raise is a number and more, together less than 2^256. It is written out, as it is reckoned three times in every call.
func raise(limbs [count]uint64, more uint64) [count]uint64 {
	a, carry := bits.Add64(limbs[0], more, 0)
	b, carry := bits.Add64(limbs[1], 0, carry)
	c, carry := bits.Add64(limbs[2], 0, carry)
	d, _ := bits.Add64(limbs[3], 0, carry)
	return [count]uint64{a, b, c, d}
}

// squares is x squared so many times.
func squares(x Fe, times int) Fe {
	for range times {
		x = Square(x)
	}
	return x
}

// power250 is x to the power of 2^250 - 1. A power of 2^m - 1 squared n times, times one of 2^n - 1, is one of 2^(m+n) - 1: so the runs of ones are joined.
func power250(x Fe) Fe {
	ones2 := Mul(Square(x), x)
	ones4 := Mul(squares(ones2, 2), ones2)
	ones5 := Mul(Square(ones4), x)
	ones10 := Mul(squares(ones5, 5), ones5)
	ones20 := Mul(squares(ones10, 10), ones10)
	ones40 := Mul(squares(ones20, 20), ones20)
	ones50 := Mul(squares(ones40, 10), ones10)
	ones100 := Mul(squares(ones50, 50), ones50)
	ones200 := Mul(squares(ones100, 100), ones100)
	return Mul(squares(ones200, 50), ones50)
}
