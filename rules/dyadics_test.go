package rules

import (
	"math"
	"slices"
	"testing"

	"gnomon/api"
	"gnomon/dyadic"
	"gnomon/num"
)

// fields: an answered dyadic as lists: its limbs, its exponent's and its sign's. A dyadic that has no form beside OK becomes a list that has none.
func fields(d api.Dyadic, e api.Errno) ([]limbs, api.Errno) {
	if e == api.OK && !dyadic.Form(d) {
		return []limbs{{0}}, e
	}
	return []limbs{d.Man.Mag, num.Of(d.Exp).Mag, flag(d.Man.Neg)}, e
}

// flag: a truth as a list, empty where it is false.
func flag(truth bool) limbs {
	if truth {
		return limbs{1}
	}
	return nil
}

// number: a plain number that is answered, as a dyadic.
func number(n int, e api.Errno) (api.Dyadic, api.Errno) { return dyadic.Of(n), e }

// shape is the sign and the exponent that go with a list.
type shape struct {
	neg bool
	exp int
}

func (s shape) of(a limbs) api.Dyadic {
	return api.Dyadic{Man: api.Int{Neg: s.neg, Mag: a}, Exp: s.exp}
}

var shapes = []shape{{false, 0}, {true, 0}, {false, -70}, {true, 64}, {false, api.MaxExp}, {true, -api.MaxExp}, {false, api.MaxExp + 1}}

func dyadicOne(name string, f func(api.Dyadic) (api.Dyadic, api.Errno)) []call {
	var out []call
	for _, s := range shapes {
		out = append(out, call{name, 1, func(in []limbs) ([]limbs, api.Errno) { return fields(f(s.of(in[0]))) }})
	}
	return out
}

func dyadicTwo(name string, f func(a, b api.Dyadic) (api.Dyadic, api.Errno)) []call {
	var out []call
	for i, s := range shapes {
		for _, k := range []int{0, 1, 3} {
			other := shapes[(i+k)%len(shapes)]
			out = append(out, call{name, 2, func(in []limbs) ([]limbs, api.Errno) {
				return fields(f(s.of(in[0]), other.of(in[1])))
			}})
		}
	}
	return out
}

func dyadicInt(name string, f func(api.Dyadic, int) (api.Dyadic, api.Errno)) []call {
	var out []call
	for _, n := range []int{0, 1, 64, 70000, 70001, api.MaxExp, math.MaxInt, -1, math.MinInt} {
		out = append(out, dyadicOne(name, func(d api.Dyadic) (api.Dyadic, api.Errno) { return f(d, n) })...)
	}
	return out
}

func dyadicQuo(name string, f func(a, b api.Dyadic, p int) (api.Dyadic, api.Errno)) []call {
	var out []call
	for _, p := range []int{0, 1, 100} {
		out = append(out, dyadicTwo(name, func(a, b api.Dyadic) (api.Dyadic, api.Errno) { return f(a, b, p) })...)
	}
	return out
}

func dyadicCalls() []call {
	return slices.Concat(
		dyadicOne("dyadic.Neg", dyadic.Neg),
		dyadicOne("dyadic.Top", func(d api.Dyadic) (api.Dyadic, api.Errno) { return number(dyadic.Top(d)) }),
		dyadicOne("dyadic.Form", func(d api.Dyadic) (api.Dyadic, api.Errno) {
			return api.Dyadic{Man: api.Int{Mag: flag(dyadic.Form(d))}}, api.OK
		}),
		dyadicInt("dyadic.Make", func(d api.Dyadic, e int) (api.Dyadic, api.Errno) { return dyadic.Make(d.Man, e) }),
		dyadicTwo("dyadic.Cmp", func(a, b api.Dyadic) (api.Dyadic, api.Errno) { return number(dyadic.Cmp(a, b)) }),
		dyadicTwo("dyadic.Add", dyadic.Add), dyadicTwo("dyadic.Sub", dyadic.Sub), dyadicTwo("dyadic.Mul", dyadic.Mul),
		dyadicInt("dyadic.Scale", dyadic.Scale), dyadicInt("dyadic.Down", dyadic.Down), dyadicInt("dyadic.Up", dyadic.Up), dyadicInt("dyadic.DownAt", dyadic.DownAt), dyadicInt("dyadic.UpAt", dyadic.UpAt),
		dyadicQuo("dyadic.QuoDown", dyadic.QuoDown), dyadicQuo("dyadic.QuoUp", dyadic.QuoUp),
	)
}

func TestDyadicsKeepTheRules(t *testing.T) {
	allHold(t, dyadicCalls())
}

func TestDyadicsOverlap(t *testing.T) {
	overlap(t, dyadicCalls())
}

func TestOfIsNew(t *testing.T) {
	first := dyadic.Of(-9)
	scribble(first.Man.Mag)
	if again := dyadic.Of(-9); !slices.Equal(again.Man.Mag, limbs{9}) {
		t.Errorf("Of answers memory that it has answered before")
	}
}
