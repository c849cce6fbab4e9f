package rules

import (
	"math"
	"slices"
	"testing"

	"gnomon/api"
	"gnomon/dyadic"
	"gnomon/span"
)

// ends: an answered span as lists, those of both ends.
func ends(s api.Span, e api.Errno) ([]limbs, api.Errno) {
	if e == api.OK && !span.Form(s) {
		return []limbs{{0}}, e
	}
	lo, _ := fields(s.Lo, e)
	hi, _ := fields(s.Hi, e)
	return slices.Concat(lo, hi), e
}

// reach is the shape of a span: those of its ends.
type reach struct{ lo, hi shape }

func (r reach) of(lo, hi limbs) api.Span { return api.Span{Lo: r.lo.of(lo), Hi: r.hi.of(hi)} }

// reaches: about nought, above it, below it, as far as exponents go, and one end that is none.
var reaches = []reach{
	{shape{true, 0}, shape{false, 3}}, {shape{false, 0}, shape{false, 0}}, {shape{true, 2}, shape{true, 2}}, {shape{false, -api.MaxExp}, shape{false, api.MaxExp}}, {shape{true, 0}, shape{false, api.MaxExp + 1}},
}

func spanOne(name string, f func(api.Span) ([]limbs, api.Errno)) []call {
	var out []call
	for _, r := range reaches {
		out = append(out, call{name, 2, func(in []limbs) ([]limbs, api.Errno) { return f(r.of(in[0], in[1])) }})
	}
	return out
}

func spanInt(name string, f func(api.Span, int) ([]limbs, api.Errno)) []call {
	var out []call
	for _, n := range []int{0, 1, 100, 70001, math.MaxInt, math.MinInt} {
		out = append(out, spanOne(name, func(s api.Span) ([]limbs, api.Errno) { return f(s, n) })...)
	}
	return out
}

func spanTwo(name string, f func(a, b api.Span) ([]limbs, api.Errno)) []call {
	var out []call
	for _, r := range reaches {
		for _, other := range reaches {
			out = append(out, call{name, 4, func(in []limbs) ([]limbs, api.Errno) {
				return f(r.of(in[0], in[1]), other.of(in[2], in[3]))
			}})
		}
	}
	return out
}

func spanBits(name string, f func(a, b api.Span, p int) (api.Span, api.Errno)) []call {
	var out []call
	for _, p := range []int{0, 1, 300} {
		out = append(out, spanTwo(name, func(a, b api.Span) ([]limbs, api.Errno) { return ends(f(a, b, p)) })...)
	}
	return out
}

func told(truth bool, e api.Errno) ([]limbs, api.Errno) { return []limbs{flag(truth)}, e }

func spanCalls() []call {
	return slices.Concat(
		spanOne("span.Form", func(s api.Span) ([]limbs, api.Errno) { return told(span.Form(s), api.OK) }),
		spanOne("span.Point", func(s api.Span) ([]limbs, api.Errno) { return ends(span.Point(s.Lo)) }),
		spanOne("span.Make", func(s api.Span) ([]limbs, api.Errno) { return ends(span.Make(s.Lo, s.Hi)) }),
		spanOne("span.Has", func(s api.Span) ([]limbs, api.Errno) { return told(span.Has(s, s.Hi)) }),
		spanOne("span.Sign", func(s api.Span) ([]limbs, api.Errno) { return fields(number(span.Sign(s))) }),
		spanOne("span.Width", func(s api.Span) ([]limbs, api.Errno) { return fields(span.Width(s)) }),
		spanOne("span.Neg", func(s api.Span) ([]limbs, api.Errno) { return ends(span.Neg(s)) }),
		spanInt("span.Thin", func(s api.Span, p int) ([]limbs, api.Errno) { return told(span.Thin(s, p)) }),
		spanInt("span.Scale", func(s api.Span, n int) ([]limbs, api.Errno) { return ends(span.Scale(s, n)) }),
		spanInt("span.Out", func(s api.Span, p int) ([]limbs, api.Errno) { return ends(span.Out(s, p)) }),
		spanInt("span.Sqr", func(s api.Span, p int) ([]limbs, api.Errno) { return ends(span.Sqr(s, p)) }),
		spanTwo("span.Hull", func(a, b api.Span) ([]limbs, api.Errno) { return ends(span.Hull(a, b)) }),
		spanTwo("span.Meet", func(a, b api.Span) ([]limbs, api.Errno) {
			s, ok, e := span.Meet(a, b)
			lists, _ := ends(s, e)
			return append(lists, flag(ok)), e
		}),
		spanBits("span.Add", span.Add), spanBits("span.Sub", span.Sub), spanBits("span.Mul", span.Mul), spanBits("span.Quo", span.Quo),
	)
}

func TestSpansKeepTheRules(t *testing.T) {
	few := []limbs{nil, {1}, {5, 7}, {0}}
	for _, c := range spanCalls() {
		if c.lists == 2 {
			allHold(t, []call{c})
			continue
		}
		for _, a := range lists() {
			for _, b := range few {
				holds(t, c, []limbs{a, b, b, a})
				holds(t, c, []limbs{b, a, b, a})
				holds(t, c, []limbs{b, b, a, a})
			}
		}
	}
}

func TestSpansOverlap(t *testing.T) {
	overlap(t, spanCalls())
}

// Spans with all their ends in one memory: the ends of an answer have each their own.
func TestSpansOfOneMemory(t *testing.T) {
	d := dyadic.Of(5)
	s := api.Span{Lo: d, Hi: d}
	for _, c := range spanCalls() {
		if c.lists != 4 {
			continue
		}
		got, _ := c.run([]limbs{d.Man.Mag, d.Man.Mag, d.Man.Mag, d.Man.Mag})
		for _, a := range got {
			scribble(a)
		}
		if !slices.Equal(s.Lo.Man.Mag, limbs{5}) {
			t.Fatalf("%s: an answer shares memory with an argument", c.name)
		}
	}
	point, _ := span.Point(d)
	scribble(point.Lo.Man.Mag)
	if !slices.Equal(point.Hi.Man.Mag, limbs{5}) {
		t.Errorf("the two ends of Point share memory")
	}
}
