// Package limb holds the loops over limbs that the layers of naturals share. They work in place, on memory that their callers have made, and know neither forms nor limits.
package limb

import "math/bits"

// Trim: a without the noughts at its end. Its room is cut off as well, so that an append to the answer never writes into a.
func Trim(a []uint64) []uint64 {
	for i := range len(a) {
		if n := len(a) - i; a[n-1] != 0 {
			return a[:n:n]
		}
	}
	return nil
}

// Cut: the lowest k limbs of a, and those above them. a has at least k. Neither piece has room that reaches into the other.
func Cut(a []uint64, k int) (low, high []uint64) {
	return a[:k:k], a[k:len(a):len(a)]
}

// Add adds a to z, which is at least as long, and answers what is carried out of z.
func Add(z, a []uint64) uint64 {
	low, high := Cut(z, len(a))
	var carry uint64
	for i := range len(low) {
		low[i], carry = bits.Add64(low[i], a[i], carry)
	}
	for i := range len(high) {
		if carry == 0 {
			return 0
		}
		high[i], carry = bits.Add64(high[i], 0, carry)
	}
	return carry
}

// Sub takes a away from z, which is at least as long, and answers what is borrowed from above z.
func Sub(z, a []uint64) uint64 {
	low, high := Cut(z, len(a))
	var borrow uint64
	for i := range len(low) {
		low[i], borrow = bits.Sub64(low[i], a[i], borrow)
	}
	for i := range len(high) {
		if borrow == 0 {
			return 0
		}
		high[i], borrow = bits.Sub64(high[i], 0, borrow)
	}
	return borrow
}

// AddMul adds a*w to the lowest len(a) limbs of z, and answers the limb that is carried out of these.
func AddMul(z, a []uint64, w uint64) uint64 {
	z = z[:len(a)]
	var carry, c uint64
	for i := range len(z) {
		high, low := bits.Mul64(a[i], w)
		// At most (B-1)*(B-1) + 2*(B-1) = B*B - 1 in all, with B = 2^64: high takes both carries.
		low, c = bits.Add64(low, z[i], 0)
		high += c
		z[i], c = bits.Add64(low, carry, 0)
		carry = high + c
	}
	return carry
}

// SubMul takes a*w away from the lowest len(a) limbs of z, and answers the limb that is borrowed from above these.
func SubMul(z, a []uint64, w uint64) uint64 {
	z = z[:len(a)]
	var borrow, c uint64
	for i := range len(z) {
		high, low := bits.Mul64(a[i], w)
		// At most (B-1)*(B-1) + B-1 = (B-1)*B in all, with B = 2^64: where high is B-1, low is 0 and borrows nothing more.
		low, c = bits.Add64(low, borrow, 0)
		high += c
		z[i], c = bits.Sub64(z[i], low, 0)
		borrow = high + c
	}
	return borrow
}

// ShiftUp moves z by n bits, from 0 to 63, towards its end. (In Go a shift by all 64 bits gives 0, so n = 0 needs no case of its own.)
func ShiftUp(z []uint64, n int) {
	for i := range len(z) {
		at := len(z) - 1 - i
		z[at] <<= n
		if at > 0 {
			z[at] |= z[at-1] >> (64 - n)
		}
	}
}

// ShiftDown moves z by n bits, from 0 to 63, towards its beginning.
func ShiftDown(z []uint64, n int) {
	for i := range len(z) {
		z[i] >>= n
		if i+1 < len(z) {
			z[i] |= z[i+1] << (64 - n)
		}
	}
}
