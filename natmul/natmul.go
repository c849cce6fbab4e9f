// Package natmul is layer 2: products, squares and powers of naturals (shared/doc/02-natmul.md).
package natmul

import (
	"gnomon/api"
	"gnomon/limb"
	"gnomon/nat"
)

const maxBits = 64 * api.MaxLimbs

// Mul: a * b.
func Mul(a, b []uint64) ([]uint64, api.Errno) {
	if !nat.Form(a) || !nat.Form(b) {
		return nil, api.ErrForm
	}
	if len(a) == 0 || len(b) == 0 {
		return nil, api.OK
	}
	// The product has at least one limb less than both together: where that is too long, there is no need to reckon.
	if len(a)+len(b)-1 > api.MaxLimbs {
		return nil, api.ErrLimit
	}
	z := multiply(a, b)
	if len(z) > api.MaxLimbs {
		return nil, api.ErrLimit
	}
	return z, api.OK
}

// Sqr: a * a.
func Sqr(a []uint64) ([]uint64, api.Errno) {
	return Mul(a, a)
}

// Pow: a to the power n.
func Pow(a []uint64, n int) ([]uint64, api.Errno) {
	if n < 0 {
		return nil, api.ErrArg
	}
	if !nat.Form(a) {
		return nil, api.ErrForm
	}
	if n == 0 {
		return nat.Word(1), api.OK
	}
	twos := nat.Bits(a) - 1
	if twos < 1 { // nought and one are their own powers
		return nat.Norm(a)
	}
	// a is at least 2^twos: this tells the great n apart ahead of the ladder below.
	if n > (maxBits-1)/twos {
		return nil, api.ErrLimit
	}
	return climb(a, nat.Word(uint64(n)))
}

// Parts: with a and b cut at k limbs, the three parts of their product: low, middle, high.
func Parts(a, b []uint64, k int) ([]uint64, []uint64, []uint64, api.Errno) {
	if k < 1 || k > api.MaxLimbs {
		return nil, nil, nil, api.ErrArg
	}
	if !nat.Form(a) || !nat.Form(b) {
		return nil, nil, nil, api.ErrForm
	}
	a0, a1 := halves(a, k)
	b0, b1 := halves(b, k)
	low, e0 := Mul(a0, b0)
	middle, e1 := crossSum(a0, a1, b0, b1)
	high, e2 := Mul(a1, b1)
	// No other error than ErrLimit is left, so the greatest is the one there is.
	if e := max(e0, e1, e2); e != api.OK {
		return nil, nil, nil, e
	}
	return low, middle, high, api.OK
}

// Product: the product of a list; of none 1.
func Product(list ...[]uint64) ([]uint64, api.Errno) {
	nought := false
	for _, a := range list {
		if !nat.Form(a) {
			return nil, api.ErrForm
		}
		nought = nought || len(a) == 0
	}
	if nought {
		return nil, api.OK
	}
	// Each number is at least 2^(its bits - 1): a product that is too long is mostly seen by that alone.
	twos := 0
	for _, a := range list {
		twos += nat.Bits(a) - 1
		if twos >= maxBits {
			return nil, api.ErrLimit
		}
	}
	return productOf(list)
}

// climb: a to the n-th, for a and n from 1 on, by the bits of n from its top down. Each power on the way is at most the last one, so the first that is too long says that the last one is.
func climb(a, n []uint64) ([]uint64, api.Errno) {
	power, e := nat.Norm(a)
	steps := nat.Bits(n) - 1
	for i := range steps {
		if power, e = Sqr(power); e != api.OK {
			return nil, e
		}
		if !nat.Bit(n, steps-1-i) {
			continue
		}
		if power, e = Mul(power, a); e != api.OK {
			return nil, e
		}
	}
	return power, e
}

// crossSum: a0*b1 + a1*b0. A lower half has at most k limbs and an upper one at most MaxLimbs - k: neither product can be too long, only their sum.
func crossSum(a0, a1, b0, b1 []uint64) ([]uint64, api.Errno) {
	x, _ := Mul(a0, b1)
	y, _ := Mul(a1, b0)
	return nat.Add(x, y)
}

// productOf: the product of numbers none of which is nought. By halves, so that the factors of each product are of like length; and no product on the way is longer than the last.
func productOf(list [][]uint64) ([]uint64, api.Errno) {
	switch len(list) {
	case 0:
		return nat.Word(1), api.OK
	case 1:
		return nat.Norm(list[0])
	}
	half := len(list) / 2
	x, e0 := productOf(list[:half:half])
	y, e1 := productOf(list[half:])
	if e := max(e0, e1); e != api.OK {
		return nil, e
	}
	return Mul(x, y)
}

// halves: a cut at k limbs, both halves without noughts at their ends.
func halves(a []uint64, k int) (low, high []uint64) {
	low, high = limb.Cut(a, min(k, len(a)))
	return limb.Trim(low), high
}
