package eft_test

import (
	"math"
	"math/big"
	"sync"
	"testing"

	"gnomon/oracle"
)

// pair is what a call is handed.
type pair struct{ a, b float64 }

// asked: a pair at all signs, and its two numbers in either order.
func (p pair) asked() []pair {
	return []pair{
		p, {p.a, -p.b}, {-p.a, p.b}, {-p.a, -p.b},
		{p.b, p.a}, {-p.b, p.a}, {p.b, -p.a}, {-p.b, -p.a},
	}
}

// someSignificands: a few of them, for the second number of a pair.
func someSignificands() []float64 {
	return []float64{1, 1.5, 0x1.0000000000001p0, 0x1.fffffffffffffp0, 0x1.0000004p0, 0x1.ffffff8p0, 0x1.5555555555555p0, 0x1.6a09e667f3bcdp0}
}

// distances: how many binades the second number of a pair lies below the first one; about 53 lie the sums that are half way, or nearly.
func distances() []int {
	return []int{0, 1, 2, 3, 10, 25, 26, 27, 28, 51, 52, 53, 54, 55, 56, 60, 100, 106, 107, 500, 1000, 1500, 2000}
}

// sums: pairs of numbers of at most 2^1022 by size.
var sums = sync.OnceValue(func() []pair {
	least := math.SmallestNonzeroFloat64
	out := []pair{{0, 0}, {0x1p1022, 0x1p1022}, {0x1p1022, least}, {0x1p1022, 0x1p969}, {0x1p1022, 0x1.8p969}, {0x1p1022, 0x1p968}, {0x1p1022, 1}}
	for _, exp := range []int{-1074, -1072, -1050, -1023, -1022, -1021, -970, -300, -1, 0, 1, 52, 300, 970, 1020, 1021} {
		for _, m := range oracle.Significands() {
			a := math.Ldexp(m, exp)
			out = append(out, pair{a, 0}, pair{a, a}, pair{a, math.Nextafter(a, 0)}, pair{a, math.Nextafter(a, 1)}, pair{a, a / 2}, pair{a, least})
			for _, distance := range distances() {
				for _, n := range someSignificands() {
					out = append(out, pair{a, math.Ldexp(n, exp-distance)})
				}
			}
		}
	}
	words := oracle.Words(60000)
	for i := 0; i < len(words); i += 3 {
		exp := int(words[i]%2000) - 1000
		out = append(out, pair{oracle.FloatOf(words[i+1], exp, exp+10), oracle.FloatOf(words[i+2], exp-60, exp+10)})
	}
	return out
})

// products: pairs of numbers of at most 2^995 by size, whose products are noughts or from 2^-960 to 2^1021 by size.
var products = sync.OnceValue(func() []pair {
	least := math.SmallestNonzeroFloat64
	out := []pair{{0, 0}, {0, 7}, {0, 0x1p995}, {0, least}, {0x1p995, 0x1p26}, {0x1p995, 0x1.fffffffffffffp25}, {0x1p-480, 0x1p-480}, {0x1p511, 0x1p510}, {0x1p995, least}}
	for _, exps := range [][2]int{{0, 0}, {-480, -480}, {-479, -480}, {-960, 0}, {-1022, 70}, {510, 510}, {511, 509}, {994, 26}, {994, -994}, {994, -1074}, {994, -1040}, {300, -300}, {1, -53}} {
		for _, m := range oracle.Significands() {
			for _, n := range oracle.Significands() {
				out = append(out, pair{math.Ldexp(m, exps[0]), math.Ldexp(n, exps[1])})
			}
		}
	}
	out = append(out, halfWays()...)
	words := oracle.Words(60000)
	for i := 0; i < len(words); i += 3 {
		exp := int(words[i]%1900) - 950
		low := max(-954-exp, -1070)
		high := min(1019-exp, 994)
		out = append(out, pair{oracle.FloatOf(words[i+1], exp, exp+1), oracle.FloatOf(words[i+2], low, high)})
	}
	return allowed(out)
})

// halfWays: products of 54 bits, which lie half way between two numbers: odd numbers of 27 bits, and 3 times odd ones of 53.
func halfWays() []pair {
	var out []pair
	for i := range 40 {
		even := 2 * float64(i)
		out = append(out,
			pair{0x1p27 - 1 - even, 0x1p27 - 1 - 3*even}, pair{0x1p27 - 1 - even, math.Ldexp(0x1.8p26+1+even, -500)},
			pair{3, 0x1p52 + 1 + even}, pair{0x1.8p-900, 0x1.4p52 + 1 + even})
	}
	return out
}

// allowed: the pairs of which chapter 19 promises the product.
func allowed(pairs []pair) []pair {
	var out []pair
	low, high := oracle.Exact(0x1p-960), oracle.Exact(0x1p1021)
	for _, p := range pairs {
		size := new(big.Float).Abs(oracle.Product(oracle.Exact(p.a), oracle.Exact(p.b)))
		inside := size.Cmp(low) >= 0 && size.Cmp(high) <= 0
		if max(math.Abs(p.a), math.Abs(p.b)) <= 0x1p995 && (size.Sign() == 0 || inside) {
			out = append(out, p)
		}
	}
	return out
}

// call is a call of two numbers, and what it tells.
type call struct {
	name  string
	run   func(a, b float64) (float64, float64)
	exact func(x, y *big.Float) *big.Float
}

// whole looks whether the answer is the exact number: rounded, and what rounding left out.
func (c call) whole(t *testing.T, p pair) {
	t.Helper()
	near, left := c.run(p.a, p.b)
	exact := c.exact(oracle.Exact(p.a), oracle.Exact(p.b))
	if near != oracle.Nearest(exact) || !oracle.IsFinite(left) || oracle.Plus(oracle.Exact(near), oracle.Exact(left)).Cmp(exact) != 0 {
		t.Errorf("%s(%x, %x) = %x, %x; %x is the rounded number", c.name, p.a, p.b, near, left, oracle.Nearest(exact))
	}
}

// small looks whether what is left is small beside the rounded number.
func (c call) small(t *testing.T, p pair) {
	t.Helper()
	near, left := c.run(p.a, p.b)
	bound := oracle.Product(oracle.Exact(0x1p-53), oracle.Exact(math.Abs(near)))
	if oracle.Exact(math.Abs(left)).Cmp(bound) > 0 {
		t.Errorf("%s(%x, %x) = %x, %x: the second one is not small", c.name, p.a, p.b, near, left)
	}
}

// is looks at one answer. Noughts of either sign are alike.
func (c call) is(t *testing.T, a, b, near, left float64) {
	t.Helper()
	if x, y := c.run(a, b); x != near || y != left {
		t.Errorf("%s(%x, %x) = %x, %x, want %x, %x", c.name, a, b, x, y, near, left)
	}
}
