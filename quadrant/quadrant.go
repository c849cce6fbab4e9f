// Package quadrant is what layers 16 and 17 share: the step from a quadrant and a span of the remainder to spans of sine, cosine and tangent.
package quadrant

import (
	"gnomon/api"
	"gnomon/dyadic"
	"gnomon/span"
	"gnomon/taylor"
)

// Spare is how many bits more than the answer the remainder must have. What is lost below is less than sixteen times what the remainder's span and a sum of that many bits lose; eight bits make up for 256 times as much.
const Spare = 8

// Enclose: the function fn, one of api.Sin, api.Cos and api.Tan, of q quarters of a turn and t: a span of relative width at most 2^-p, with ends of at most p + 64 bits. t lies from -13/16 to 13/16, its relative width is at most 2^-(p + Spare), and p is at most MaxRung, so that no step meets a limit.
func Enclose(fn api.Fn, q int, t api.Span, p int) api.Span {
	switch fn {
	case api.Sin:
		return wave(q, t, p)
	case api.Cos:
		return wave(q+1, t, p)
	}
	s, _ := span.Quo(wave(q, t, p), wave(q+1, t, p), ends(p))
	return s
}

// ends: how many bits the ends of an answer may have.
func ends(p int) int { return p + 64 }

// wave: the sine of q quarters of a turn and t. The cosine is the sine of one quarter more.
func wave(q int, t api.Span, p int) api.Span {
	over := sine
	if q%2 != 0 {
		over = cosine
	}
	s := over(t, p)
	if q&2 != 0 {
		s, _ = span.Neg(s)
	}
	return s
}

// sine: sin u for all u of t. It rises, and by no more than u does: so one sum, at the lower end, tells it all over t.
func sine(t api.Span, p int) api.Span {
	least, _ := taylor.Sin(t.Lo, p+Spare)
	width, _ := span.Width(t)
	s, _ := span.Add(least, api.Span{Hi: width}, ends(p))
	return s
}

// cosine: cos u for all u of t. It rises and falls by no more than u does, and never beyond 1.
func cosine(t api.Span, p int) api.Span {
	first, _ := taylor.Cos(t.Lo, p+Spare)
	width, _ := span.Width(t)
	less, _ := dyadic.Neg(width)
	s, _ := span.Add(first, api.Span{Lo: less, Hi: width}, ends(p))
	s, _, _ = span.Meet(s, api.Span{Hi: dyadic.Of(1)})
	return s
}
