// Package limb holds the loops over limbs that the layers of naturals share. They work in place, on memory that their callers have made, and know neither forms nor limits.
package limb

import "math/bits"

// Trim: a without the noughts at its end. Its room is cut off as well, so that an append to the answer never writes into a.
func Trim(a []uint64) []uint64 {
	for i := range len(a) {
		if n := len(a) - i; a[n-1] != 0 {
			return a[:n:n]
		}
	}
	return nil
}

// Cut: the lowest k limbs of a, and those above them. a has at least k. Neither piece has room that reaches into the other.
func Cut(a []uint64, k int) (low, high []uint64) {
	return a[:k:k], a[k:len(a):len(a)]
}

// Add adds a to z, which is at least as long, and answers what is carried out of z.
func Add(z, a []uint64) uint64 {
	low, high := Cut(z, len(a))
	var carry uint64
	for i := range len(low) {
		low[i], carry = bits.Add64(low[i], a[i], carry)
	}
	for i := range len(high) {
		if carry == 0 {
			return 0
		}
		high[i], carry = bits.Add64(high[i], 0, carry)
	}
	return carry
}

// Sub takes a away from z, which is at least as long, and answers what is borrowed from above z.
func Sub(z, a []uint64) uint64 {
	low, high := Cut(z, len(a))
	var borrow uint64
	for i := range len(low) {
		low[i], borrow = bits.Sub64(low[i], a[i], borrow)
	}
	for i := range len(high) {
		if borrow == 0 {
			return 0
		}
		high[i], borrow = bits.Sub64(high[i], 0, borrow)
	}
	return borrow
}

// AddMul adds a*w to the lowest len(a) limbs of z, and answers the limb that is carried out of these.
func AddMul(z, a []uint64, w uint64) uint64 {
	z = z[:len(a)]
	var carry, c uint64
	for i := range len(z) {
		high, low := bits.Mul64(a[i], w)
		// At most (B-1)*(B-1) + 2*(B-1) = B*B - 1 in all, with B = 2^64: high takes both carries.
		low, c = bits.Add64(low, z[i], 0)
		high += c
		z[i], c = bits.Add64(low, carry, 0)
		carry = high + c
	}
	return carry
}
