package rules

import (
	"math"
	"slices"
	"testing"

	"gnomon/api"
	"gnomon/nat"
	"gnomon/oracle"
	"gnomon/refval"
	"gnomon/turn"
)

// allFunctions: the six, and what is none.
func allFunctions() []api.Fn {
	return []api.Fn{api.Sin, api.Cos, api.Tan, api.SinPi, api.CosPi, api.TanPi, 0, 7, math.MaxInt, math.MinInt}
}

// somePatterns: of Double, of each class; of turns in quarters and beside them.
func somePatterns() []uint64 {
	out := append(oracle.Finite(api.Double)[:64], oracle.NaNs(api.Double)[:4]...)
	out = append(out, oracle.Infinity(api.Double))
	for _, x := range []float64{0.25, 0.5, 0.75, -0.25, -0.5, 1, 1.5, -2, 2.5, 0.125, 0.3, 1e22, -100} {
		out = append(out, math.Float64bits(x), math.Float64bits(x)+1)
	}
	return out
}

func encloseCalls(fn api.Fn, b uint64) []call {
	var out []call
	for _, p := range []int{0, 1, 64, 500, api.MaxRung + 1, math.MaxInt, math.MinInt} {
		out = append(out,
			plain("refval.Enclose", func() ([]limbs, api.Errno) { return ends(refval.Enclose(fn, b, p)) }),
			plain("turn.Enclose", func() ([]limbs, api.Errno) { return ends(turn.Enclose(fn, b, p)) }))
	}
	return out
}

func exactCalls(fn api.Fn, b uint64) []call {
	var out []call
	for _, f := range someFormats() {
		out = append(out, plain("turn.Exact", func() ([]limbs, api.Errno) {
			pattern, ok, e := turn.Exact(f, fn, b)
			return []limbs{nat.Word(pattern), flag(ok)}, e
		}))
	}
	return out
}

func valueCalls() []call {
	var out []call
	for _, b := range somePatterns() {
		out = append(out, plain("turn.Reduce", func() ([]limbs, api.Errno) {
			q, r, e := turn.Reduce(b)
			quadrant, _ := fields(number(q, e))
			lists, _ := fields(r, e)
			return slices.Concat(quadrant, lists), e
		}))
		for _, fn := range allFunctions() {
			out = append(out, plain("refval.Sign", func() ([]limbs, api.Errno) { return fields(number(refval.Sign(fn, b))) }))
			out = slices.Concat(out, encloseCalls(fn, b), exactCalls(fn, b), exactCalls(fn, b&0xffffffff))
		}
	}
	return out
}

func TestValuesKeepTheRules(t *testing.T) {
	for _, c := range valueCalls() {
		holds(t, c, nil)
	}
}

func TestValuesAreToldAnew(t *testing.T) {
	toldAnew(t, valueCalls())
}
