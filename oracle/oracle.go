// Package oracle is what the tests hold the layers against: the library's own whole numbers and fractions, exact sums and products of floats, pi, remainders by pi/2, sines, cosines and tangents by other ways, and numbers worth trying. No layer calls it.
package oracle

import (
	"math/big"
	"slices"

	"gnomon/api"
)

// Number: what any list of limbs stands for.
func Number(a []uint64) *big.Int {
	words := make([]big.Word, len(a))
	for i := range a {
		words[i] = big.Word(a[i])
	}
	return new(big.Int).SetBits(words)
}

// Natural: the one list in form for the size of x.
func Natural(x *big.Int) []uint64 {
	var a []uint64
	for _, w := range x.Bits() {
		a = append(a, uint64(w))
	}
	return a
}

// Whole: what any api.Int stands for.
func Whole(x api.Int) *big.Int {
	n := Number(x.Mag)
	if x.Neg {
		n.Neg(n)
	}
	return n
}

// Int: the one form of x.
func Int(x *big.Int) api.Int {
	return api.Int{Neg: x.Sign() < 0, Mag: Natural(x)}
}

// Noughts: n nought limbs and what stands behind them.
func Noughts(n int, behind ...uint64) []uint64 {
	return append(make([]uint64, n), behind...)
}

// Ones: n limbs of ones alone.
func Ones(n int) []uint64 {
	return slices.Repeat([]uint64{1<<64 - 1}, n)
}

// Mixed: n limbs, the last one not 0, many of the others all noughts or all ones, so that carries and borrows run far.
func Mixed(n int, seed uint64) []uint64 {
	a := make([]uint64, n)
	for i := range a {
		seed = seed*6364136223846793005 + 1442695040888963407
		switch seed >> 61 {
		case 0, 1:
			a[i] = 0
		case 2, 3:
			a[i] = 1<<64 - 1
		default:
			a[i] = seed ^ seed>>29
		}
	}
	if n > 0 {
		a[n-1] |= 1 << (seed >> 40 % 64)
	}
	return a
}

// Misshapen: lists that are no naturals in form.
func Misshapen() [][]uint64 {
	n := api.MaxLimbs
	return [][]uint64{{0}, {0, 0}, {5, 0}, {0, 7, 0}, Noughts(n), Noughts(n, 1), Ones(n + 1), Noughts(n+7, 3)}
}
