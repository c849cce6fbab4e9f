package dd_test

import (
	"math"
	"sync"

	"gnomon/api"
	"gnomon/oracle"
)

const u = 0x1p-53

// pair is short for the double-double of two halves.
func pair(hi, lo float64) api.DD { return api.DD{Hi: hi, Lo: lo} }

// minus: the opposite of a.
func minus(a api.DD) api.DD { return pair(-a.Hi, -a.Lo) }

// someSignificands: numbers from 1 on and below 2, odd ones and even ones, of few bits and of 53.
func someSignificands() []float64 {
	return []float64{1, 1.5, 0x1.0000000000001p0, 0x1.0000000000002p0, 0x1.0000000000003p0, 0x1.ffffffffffffep0, 0x1.fffffffffffffp0, 0x1.0000004000001p0, 0x1.5555555555555p0, 0x1.921fb54442d18p0}
}

// atSizes: these numbers at some exponents.
func atSizes(exps ...int) []float64 {
	var out []float64
	for _, exp := range exps {
		for _, m := range someSignificands() {
			out = append(out, math.Ldexp(m, exp))
		}
	}
	return out
}

// lows: what may stand beside hi as its Lo: a half of the gap to either neighbour, by which it is in form or not, and what is smaller and greater.
func lows(hi float64) []float64 {
	out := []float64{0, math.Copysign(0, -1)}
	add := func(x float64) {
		if oracle.IsFinite(x) {
			out = append(out, x, -x)
		}
	}
	add(math.SmallestNonzeroFloat64)
	add(hi)
	for _, gap := range []float64{math.Nextafter(hi, math.Inf(1)) - hi, hi - math.Nextafter(hi, math.Inf(-1))} {
		for _, part := range []float64{1, 0.5, 0.375, 0.25, 0x1.5555555555555p-3, 0x1p-20, 0x1.8p-53, 0x1.fffffffffffffp-120} {
			x := gap * part
			add(x)
			add(math.Nextafter(x, 0))
			add(math.Nextafter(x, math.Inf(1)))
		}
	}
	return out
}

// beside: all pairs of a hi, at both signs, with what may stand beside it.
func beside(his []float64) []api.DD {
	var out []api.DD
	for _, hi := range his {
		for _, hi := range []float64{hi, -hi} {
			for _, lo := range lows(hi) {
				out = append(out, pair(hi, lo))
			}
		}
	}
	return out
}

// finitePairs: pairs of finite halves of all sizes, in form and not.
var finitePairs = sync.OnceValue(func() []api.DD {
	his := atSizes(-1074, -1073, -1060, -1023, -1022, -1021, -970, -969, -300, -1, 0, 53, 300, 1000, 1022, 1023)
	return beside(append(his, 0, math.SmallestNonzeroFloat64, 2*math.SmallestNonzeroFloat64, math.MaxFloat64, math.Nextafter(math.MaxFloat64, 0)))
})

// endlessPairs: pairs of which one half at least is no number.
func endlessPairs() []api.DD {
	var out []api.DD
	for _, x := range oracle.EndlessFloats() {
		for _, y := range append(oracle.EndlessFloats(), 0, 1, -1, math.MaxFloat64, -math.MaxFloat64, math.SmallestNonzeroFloat64) {
			out = append(out, pair(x, y), pair(y, x))
		}
	}
	return out
}

func inForm(list []api.DD) []api.DD {
	var out []api.DD
	for _, a := range list {
		if oracle.InForm(a) {
			out = append(out, a)
		}
	}
	return out
}

func fitFloat(x float64) bool {
	size := math.Abs(x)
	return size == 0 || size >= 0x1p-300 && size <= 0x1p300
}

// fit: those of a list that are fit.
func fit(list []api.DD) []api.DD {
	var out []api.DD
	for _, a := range inForm(list) {
		if fitFloat(a.Hi) {
			out = append(out, a)
		}
	}
	return out
}

// fitPairs: fit double-doubles of all sizes, with Los near to what they may be at most, and far smaller ones.
var fitPairs = sync.OnceValue(func() []api.DD {
	his := append(atSizes(-300, -299, -200, -53, -1, 0, 1, 52, 200, 298, 299), 0, 0x1p300)
	return append(fit(beside(his)), ruleless(2000)...)
})

// ruleless: so many fit double-doubles without a rule.
func ruleless(n int) []api.DD {
	var out []api.DD
	words := oracle.Words(3 * n)
	for i := range n {
		hi := oracle.FloatOf(words[3*i], -300, 300)
		top := math.Ilogb(hi)
		out = append(out, pair(hi, oracle.FloatOf(words[3*i+1], top-54-int(words[3*i+2]%7), top-53)))
	}
	return fit(out)
}

// cancelling: double-doubles that take away nearly all of a, or all of it: their His are a's or stand beside it, or beside half of it or twice of it.
func cancelling(a api.DD) []api.DD {
	his := []float64{a.Hi, math.Nextafter(a.Hi, 0), math.Nextafter(a.Hi, 2*a.Hi), a.Hi / 2, 2 * a.Hi}
	out := []api.DD{minus(a)}
	for _, hi := range his {
		out = append(out, pair(-hi, 0), pair(-hi, a.Lo), pair(-hi, -a.Lo), pair(-hi, a.Lo/2), pair(-hi, math.Nextafter(-a.Lo, 1)), pair(-hi, 0x1.5555555555555p-4*a.Lo), pair(-hi, -0x1.5555555555555p-30*a.Lo))
	}
	return fit(out)
}

// partners: so many of the fit ones for the one at place i, others at each place.
func partners(i, n int) []api.DD {
	list := fitPairs()
	var out []api.DD
	for k := range n {
		out = append(out, list[(i*31+k*k*k*97+k*1009)%len(list)])
	}
	return out
}
