package taylor

import (
	"gnomon/api"
	"gnomon/dyadic"
	"gnomon/span"
)

// The ratio of a number v is g(v) = 2*(1 - cos v) / v^2. It is hardly below 1 however small v is, and both functions come from it: cos v = 1 - v^2/2 * g(v), sin v = v * root of g(2v). And g(2v) = g(v) - v^2/4 * g(v)^2: in that step what g(v) is off by does not grow.

// sine: Sin where nothing is wrong: t times the root of the ratio of 2t.
func sine(t api.Dyadic, p int) api.Span {
	point, _ := span.Point(t)
	if len(t.Man.Mag) == 0 {
		return point
	}
	square := squareOf(t, p+spare)
	n := halvings(t, p+spare)
	root := ratio(square, n, n+1).root()
	factor, _ := span.Out(point, p+spare)
	answer, _ := span.Mul(factor, root.span(), p+64)
	return answer
}

// cosine: Cos where nothing is wrong: 1 less half the square of t times the ratio of t.
func cosine(t api.Dyadic, p int) api.Span {
	if len(t.Man.Mag) == 0 {
		one, _ := span.Point(dyadic.Of(1))
		return one
	}
	square := squareOf(t, p+spare)
	n := halvings(t, p+spare)
	return lessened(square, ratio(square, n, n)).span()
}

// halvings: how often a t that is not nought is halved ahead of its sum, so that undoing it takes about as long as the sum's parts. A t that is small needs less of it.
func halvings(t api.Dyadic, places int) int {
	top, _ := dyadic.Top(t)
	depth := 0
	for 4*depth*depth < places {
		depth++
	}
	return max(0, depth+top)
}

// ratio: g(2^(doublings - halvings) * t), of the square of t.
func ratio(square near, halvings, doublings int) near {
	g := series(square.part(2 * halvings))
	for i := range doublings {
		g = g.doubled(square.part(2*(halvings-i) + 2))
	}
	return g
}
