package ziv_test

import (
	"math"
	"math/big"
	"sort"
	"sync"

	"gnomon/api"
	"gnomon/nearpi"
	"gnomon/oracle"
)

var functions = [...]api.Fn{api.Sin, api.Cos, api.Tan, api.SinPi, api.CosPi, api.TanPi}

func bitsOf(x float64) uint64 { return math.Float64bits(x) }

// circle tells the functions to far more bits than their values come near to midpoints of a format.
var circle = sync.OnceValue(func() oracle.Circle { return oracle.Around(400) })

// told: a function of the number of a finite pattern.
func told(f api.Format, fn api.Fn, b uint64) oracle.Real {
	wide := bitsOf(oracle.Float(f, b))
	if fn >= api.SinPi {
		return circle().Turns(wide).Of(fn)
	}
	return circle().Radians(wide).Of(fn)
}

// known: the special cases, as P18.2 and P17.2 say them.
func known(f api.Format, fn api.Fn, b uint64) (uint64, bool) {
	x := oracle.Float(f, b)
	switch {
	case math.IsNaN(x) || math.IsInf(x, 0):
		return map[api.Format]uint64{api.Single: 0x7fc00001, api.Double: 0x7ff8000000000001}[f], true
	case x == 0 && (fn == api.Cos || fn == api.CosPi):
		return oracle.Bits(f, 1), true
	case x == 0:
		return b, true
	case fn >= api.SinPi:
		value, ok := oracle.ExactTurn(fn, oracle.ValueOf(f, b))
		return oracle.Bits(f, value), ok
	}
	return 0, false
}

// asked is a function at a number, no special case, and what it is.
type asked struct {
	f     api.Format
	fn    api.Fn
	b     uint64
	value oracle.Real
	want  uint64 // the right pattern
}

// askAll: all six functions at these patterns, but for the special cases.
func askAll(f api.Format, patterns []uint64) []asked {
	var out []asked
	for _, b := range patterns {
		for _, fn := range functions {
			if _, special := known(f, fn, b); special {
				continue
			}
			v := told(f, fn, b)
			want, ok := v.Rounded(f)
			if !ok {
				panic("a value nearer to a midpoint than the circle tells")
			}
			out = append(out, asked{f, fn, b, v, want})
		}
	}
	return out
}

// enough: the least precision at which Decide must be certain.
func (a asked) enough() int {
	return sort.Search(1000, func(p int) bool { return a.value.Clear(a.f, p) })
}

// both: patterns, of both signs.
func both(f api.Format, patterns []uint64) []uint64 {
	var out []uint64
	for _, b := range patterns {
		out = append(out, b, oracle.Minus(f, b))
	}
	return out
}

// multiples: the numbers of some binades that come nearest to multiples of pi/2.
func multiples(f api.Format) []uint64 {
	bits, first, last, step := 24, -24, 104, 4
	if f == api.Double {
		bits, first, last, step = 53, -53, 971, 34 // 797, where the nearest of all lies, is among them
	}
	var out []uint64
	for exp := first; exp <= last; exp += step {
		a, _ := nearpi.Nearest(bits, exp)
		out = append(out, oracle.Bits(f, math.Ldexp(float64(a.Man), exp)))
	}
	return out
}

// off: how many patterns lie between the pattern of f(x) and b.
func off(f api.Format, fn api.Fn, x, b uint64) uint64 {
	got, _ := told(f, fn, x).Rounded(f)
	return max(got, b) - min(got, b)
}

// crossings: neighbours between which a function of a tiny number passes a midpoint: the last number whose sine or tangent is k patterns off the number itself, the last whose cosine is k patterns off 1, and the ones behind them. Their values lie nearer to a midpoint than most.
func crossings(f api.Format) []uint64 {
	middle := -12
	if f == api.Double {
		middle = -26
	}
	var out []uint64
	find := func(fn api.Fn, exp int, holds func(b uint64) bool) {
		low, high := oracle.Bits(f, math.Ldexp(1, exp)), oracle.Bits(f, math.Ldexp(1, exp+1))
		b := low + uint64(sort.Search(int(high-low), func(i int) bool { return !holds(low + uint64(i)) }))
		out = append(out, b-1, b)
	}
	for exp := middle - 2; exp <= middle+2; exp++ {
		for k := range uint64(2) {
			for _, fn := range []api.Fn{api.Sin, api.Tan} {
				find(fn, exp, func(b uint64) bool { return off(f, fn, b, b) <= k })
			}
			for _, fn := range []api.Fn{api.Cos, api.CosPi} {
				find(fn, exp, func(b uint64) bool { return off(f, fn, b, oracle.Bits(f, 1)) <= k })
			}
		}
	}
	return out
}

// fractions: tiny numbers m * 2^e with m*pi nearly whole: the denominators of fractions near to pi.
func fractions(f api.Format) []uint64 {
	bits, exp := 24, -120
	if f == api.Double {
		bits, exp = 53, -900
	}
	var out []uint64
	one := new(big.Int).Lsh(big.NewInt(1), 400)
	above, below := oracle.Pi(400), one
	last, q := big.NewInt(1), big.NewInt(0) // two denominators, one after the other
	for {
		whole, rest := new(big.Int).QuoRem(above, below, new(big.Int))
		above, below = below, rest
		last, q = q, new(big.Int).Add(new(big.Int).Mul(whole, q), last)
		for i := range int64(3) {
			m := new(big.Int).Mul(last, big.NewInt(i))
			m.Add(m, q)
			if m.BitLen() <= bits {
				x, _ := new(big.Float).SetInt(m).Float64()
				out = append(out, oracle.Bits(f, math.Ldexp(x, exp)))
			}
		}
		if q.BitLen() > bits {
			return out
		}
	}
}

// plain: numbers of everyday sizes, eighths and what stands beside them, 10^22.
func plain(f api.Format) []uint64 {
	out := []uint64{oracle.Bits(f, 0.1), oracle.Bits(f, 100), oracle.Bits(f, 1e22), oracle.Bits(f, math.Pi), oracle.Bits(f, math.Pi/2), oracle.Bits(f, math.Pi/4)}
	for _, x := range oracle.Eighths(f)[1:] {
		b := oracle.Bits(f, x)
		out = append(out, b-1, b, b+1)
	}
	if f == api.Double { // the sine and the tangent of a number whose value is known to lie very near to a midpoint
		out = append(out, bitsOf(0x1.598bae9e632f6p-7), bitsOf(0x1.50486b2f87014p-5))
	}
	return out
}

// numbers: patterns of both signs of a format that have a number.
func numbers(f api.Format) []uint64 {
	out := oracle.Finite(f)
	for _, list := range [][]uint64{multiples(f), crossings(f), fractions(f), plain(f)} {
		out = append(out, both(f, list)...)
	}
	return out
}

// questions: all six functions of the numbers of a format. They are told once, as this takes a while.
var questions = map[api.Format]func() []asked{
	api.Single: sync.OnceValue(func() []asked { return askAll(api.Single, numbers(api.Single)) }),
	api.Double: sync.OnceValue(func() []asked { return askAll(api.Double, numbers(api.Double)) }),
}
