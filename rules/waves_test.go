package rules

import (
	"math"
	"slices"
	"testing"

	"gnomon/api"
	"gnomon/oracle"
	"gnomon/refreduce"
	"gnomon/taylor"
)

// reduced: what Reduce answers, the quadrant as a list.
func reduced(b uint64, p int) ([]limbs, api.Errno) {
	q, s, e := refreduce.Reduce(b, p)
	quadrant, _ := fields(number(q, e))
	lists, _ := ends(s, e)
	return slices.Concat(quadrant, lists), e
}

func reduceCalls() []call {
	var out []call
	patterns := append(oracle.Finite(api.Double)[:80], oracle.NaNs(api.Double)...)
	patterns = append(patterns, oracle.Infinity(api.Double), math.Float64bits(1e22), math.Float64bits(-100))
	for _, b := range patterns {
		out = append(out, plain("refreduce.Multiple", func() ([]limbs, api.Errno) {
			k, e := refreduce.Multiple(b)
			return []limbs{k.Mag, flag(k.Neg)}, e
		}))
		for _, p := range []int{0, 1, 64, 500, 68001, math.MaxInt, math.MinInt} {
			out = append(out, plain("refreduce.Reduce", func() ([]limbs, api.Errno) { return reduced(b, p) }))
		}
	}
	return out
}

// smallShapes: shapes with which lists become numbers from -1 to 1, short ones and those of 130 limbs; lists and shapes that don't go together are wrong inputs.
func smallShapes() []shape {
	return []shape{{false, 0}, {true, 0}, {false, -3}, {true, -128}, {false, -64 * 130}, {true, -64*130 - 2000}, {false, -524288}, {true, -64 * 8192}, {false, -api.MaxExp - 1}}
}

func taylorCalls() []call {
	var out []call
	for _, p := range []int{0, 1, 100, 67001, math.MaxInt, math.MinInt} {
		for i, s := range smallShapes() {
			r := reach{s, smallShapes()[(i+2)%len(smallShapes())]}
			out = append(out,
				call{"taylor.Sin", 1, func(in []limbs) ([]limbs, api.Errno) { return ends(taylor.Sin(s.of(in[0]), p)) }},
				call{"taylor.Cos", 1, func(in []limbs) ([]limbs, api.Errno) { return ends(taylor.Cos(s.of(in[0]), p)) }},
				call{"taylor.SinOver", 2, func(in []limbs) ([]limbs, api.Errno) { return ends(taylor.SinOver(r.of(in[0], in[1]), p)) }},
				call{"taylor.CosOver", 2, func(in []limbs) ([]limbs, api.Errno) { return ends(taylor.CosOver(r.of(in[0], in[1]), p)) }},
				call{"taylor.SinOver", 1, func(in []limbs) ([]limbs, api.Errno) {
					return ends(taylor.SinOver(reach{s, s}.of(in[0], in[0]), p))
				}},
				call{"taylor.CosOver", 1, func(in []limbs) ([]limbs, api.Errno) {
					return ends(taylor.CosOver(reach{s, s}.of(in[0], in[0]), p))
				}})
		}
	}
	return out
}

func TestReductionsKeepTheRules(t *testing.T) {
	for _, c := range reduceCalls() {
		holds(t, c, nil)
	}
}

func TestTaylorKeepsTheRules(t *testing.T) {
	allHold(t, taylorCalls())
}

func TestTaylorOverlaps(t *testing.T) {
	overlap(t, taylorCalls())
}

// The calls above are of use only where many of them answer a span.
func TestTaylorCallsAnswer(t *testing.T) {
	answers := map[string]int{}
	for _, c := range taylorCalls() {
		for _, a := range lists() {
			for _, b := range lists() {
				if _, e := c.run([]limbs{a, b}); e == api.OK {
					answers[c.name]++
				}
			}
		}
	}
	for _, name := range []string{"taylor.Sin", "taylor.Cos", "taylor.SinOver", "taylor.CosOver"} {
		if answers[name] < 100 {
			t.Errorf("only %d of the calls of %s answer a span", answers[name], name)
		}
	}
}

func TestWavesAreToldAnew(t *testing.T) {
	one := limbs{1}
	calls := reduceCalls()
	for _, c := range taylorCalls() {
		if c.lists == 1 {
			calls = append(calls, plain(c.name, func() ([]limbs, api.Errno) { return c.run([]limbs{one}) }))
		}
	}
	toldAnew(t, calls)
}
