// Package nat is layer 1: naturals as lists of limbs, the least first (shared/doc/01-nat.md).
package nat

import (
	"math/bits"

	"gnomon/api"
	"gnomon/limb"
)

const maxBits = 64 * api.MaxLimbs

// Form: is a in form (no nought limb at the end, at most MaxLimbs limbs)?
func Form(a []uint64) bool {
	n := len(a)
	return n <= api.MaxLimbs && (n == 0 || a[n-1] != 0)
}

// Norm: a without the noughts at its end; of any list.
func Norm(a []uint64) ([]uint64, api.Errno) {
	short := limb.Trim(a)
	if len(short) > api.MaxLimbs {
		return nil, api.ErrLimit
	}
	return copied(short, len(short)), api.OK
}

// Word: the natural of one word.
func Word(w uint64) []uint64 {
	if w == 0 {
		return nil
	}
	return []uint64{w}
}

// Bits: the bit length; of any list.
func Bits(a []uint64) int {
	a = limb.Trim(a)
	n := len(a)
	if n == 0 {
		return 0
	}
	return 64*(n-1) + bits.Len64(a[n-1])
}

// Trail: the place of the lowest one bit, 0 of nought; of any list.
func Trail(a []uint64) int {
	for i := range len(a) {
		if a[i] != 0 {
			return 64*i + bits.TrailingZeros64(a[i])
		}
	}
	return 0
}

// Bit: is the bit of value 2^i set; of any list, at any i.
func Bit(a []uint64, i int) bool {
	if i < 0 || i/64 >= len(a) {
		return false
	}
	return a[i/64]>>(i%64)&1 == 1
}

// Cmp: -1, 0 or 1; of any lists.
func Cmp(a, b []uint64) int {
	a, b = limb.Trim(a), limb.Trim(b)
	n := len(a)
	if n != len(b) {
		return order(n < len(b))
	}
	for i := range n {
		if top := n - 1 - i; a[top] != b[top] {
			return order(a[top] < b[top])
		}
	}
	return 0
}

// Add: a + b.
func Add(a, b []uint64) ([]uint64, api.Errno) {
	if !Form(a) || !Form(b) {
		return nil, api.ErrForm
	}
	if len(a) < len(b) {
		a, b = b, a
	}
	// One limb more: a carry may go through all of a.
	sum := copied(a, len(a)+1)
	limb.Add(sum, b)
	return fitted(sum)
}

// Sub: a - b.
func Sub(a, b []uint64) ([]uint64, api.Errno) {
	if !Form(a) || !Form(b) {
		return nil, api.ErrForm
	}
	if Cmp(a, b) < 0 {
		return nil, api.ErrSign
	}
	rest := copied(a, len(a))
	limb.Sub(rest, b)
	return limb.Trim(rest), api.OK
}

// Shl: a * 2^n.
func Shl(a []uint64, n int) ([]uint64, api.Errno) {
	if n < 0 {
		return nil, api.ErrArg
	}
	if !Form(a) {
		return nil, api.ErrForm
	}
	if len(a) == 0 {
		return nil, api.OK
	}
	// Asked ahead of any memory, and by a difference: Bits(a) + n may wrap.
	if n > maxBits-Bits(a) {
		return nil, api.ErrLimit
	}
	moved := make([]uint64, len(a)+n/64+1)
	copy(moved[n/64:], a)
	limb.ShiftUp(moved, n%64)
	return limb.Trim(moved), api.OK
}

// Shr: a / 2^n, rounded down.
func Shr(a []uint64, n int) ([]uint64, api.Errno) {
	if n < 0 {
		return nil, api.ErrArg
	}
	if !Form(a) {
		return nil, api.ErrForm
	}
	if n >= Bits(a) {
		return nil, api.OK
	}
	_, high := limb.Cut(a, n/64)
	moved := copied(high, len(high))
	limb.ShiftDown(moved, n%64)
	return limb.Trim(moved), api.OK
}

// Low: a modulo 2^n.
func Low(a []uint64, n int) ([]uint64, api.Errno) {
	if n < 0 {
		return nil, api.ErrArg
	}
	if !Form(a) {
		return nil, api.ErrForm
	}
	if n >= Bits(a) {
		return copied(a, len(a)), api.OK
	}
	low, _ := limb.Cut(a, n/64+1)
	kept := copied(low, len(low))
	kept[n/64] &= 1<<(n%64) - 1
	return limb.Trim(kept), api.OK
}

// MulWord: a * w.
func MulWord(a []uint64, w uint64) ([]uint64, api.Errno) {
	if !Form(a) {
		return nil, api.ErrForm
	}
	product := make([]uint64, len(a)+1)
	product[len(a)] = limb.AddMul(product, a, w)
	return fitted(product)
}

// DivWord: quotient and remainder by a word.
func DivWord(a []uint64, w uint64) ([]uint64, uint64, api.Errno) {
	if !Form(a) {
		return nil, 0, api.ErrForm
	}
	if w == 0 {
		return nil, 0, api.ErrZero
	}
	quotient := copied(a, len(a))
	var rest uint64
	for i := range len(quotient) {
		top := len(quotient) - 1 - i
		quotient[top], rest = bits.Div64(rest, quotient[top], w)
	}
	return limb.Trim(quotient), rest, api.OK
}

// copied: a in new memory of n limbs, so that what follows may change it. n is at least a's length.
func copied(a []uint64, n int) []uint64 {
	z := make([]uint64, n)
	copy(z, a)
	return z
}

// fitted: what was reckoned in new memory, as an answer.
func fitted(z []uint64) ([]uint64, api.Errno) {
	z = limb.Trim(z)
	if len(z) > api.MaxLimbs {
		return nil, api.ErrLimit
	}
	return z, api.OK
}

func order(below bool) int {
	if below {
		return -1
	}
	return 1
}
