package angles

import (
	"math"
	"sort"

	"gnomon/api"
	"gnomon/oracle"
)

// Hardest: numbers of both signs whose tangent, sine, tangent and cosine, in this order, are known to lie nearer to a midpoint of Double than those of nearly all others. The first tangent lies nearer than 2^-128 of itself: at 15*2^-25 the x^3/3 of the series is 562 and a half times the step from x to the next number, and 225 steps less make up for what follows it.
func Hardest() []float64 {
	var out []float64
	for _, x := range []float64{0x1.dffffffffff1fp-22, 0x1.598bae9e632f6p-7, 0x1.50486b2f87014p-5, 0x1.34ec2f9fc9cp+1} {
		out = append(out, x, -x)
	}
	return out
}

// slope is where a function leaves a level so slowly that its values at two neighbours lie very near to the midpoint that it passes between them: behind base.
type slope struct {
	fn   api.Fn
	base float64
	self bool // the level is x itself
	flat float64
}

// Crossings: numbers of both signs about those between which a midpoint of Double is passed on a slope.
func Crossings() []float64 {
	c := oracle.Around(200)
	var out []float64
	for _, s := range []slope{
		{fn: api.Sin, self: true}, {fn: api.Tan, self: true}, {fn: api.Cos, flat: 1}, {fn: api.Sin, base: math.Pi / 2, flat: 1}, {fn: api.Cos, base: math.Pi, flat: -1},
	} {
		for exp := -27; exp < -8; exp++ {
			for _, m := range []float64{1.01, 1.4} {
				out = append(out, s.about(c, math.Ldexp(m, exp), math.Ldexp(1.99, exp))...)
			}
		}
	}
	return out
}

// off: how many patterns f(x) lies off the level.
func (s slope) off(c oracle.Circle, b uint64) uint64 {
	got, ok := c.Radians(b).Of(s.fn).Rounded(api.Double)
	if !ok {
		panic("a value nearer to a midpoint than the circle tells")
	}
	level := math.Float64bits(s.flat)
	if s.self {
		level = b
	}
	return max(got, level) - min(got, level)
}

// about: from base + low to base + high, the first number that is farther off the level than the one at the beginning, the number ahead of it, and others 1, 8, 64 .. steps away from these; nothing, if there is none.
func (s slope) about(c oracle.Circle, low, high float64) []float64 {
	start, end := math.Float64bits(s.base+low), math.Float64bits(s.base+high)
	k, n := s.off(c, start), end-start
	place := uint64(sort.Search(int(n), func(i int) bool { return s.off(c, start+uint64(i)) > k }))
	if place == n {
		return nil
	}
	crossed := start + place
	out := both(crossed-1, crossed)
	for away := uint64(1); away < n/4; away *= 8 {
		out = append(out, both(crossed-1-away, crossed+away)...)
	}
	return out
}

// both: the numbers of patterns, of both signs.
func both(patterns ...uint64) []float64 {
	var out []float64
	for _, b := range patterns {
		x := math.Float64frombits(b)
		out = append(out, x, -x)
	}
	return out
}
