package span

import (
	"gnomon/api"
	"gnomon/dyadic"
)

// Out: s rounded outward to p bits.
func Out(s api.Span, p int) (api.Span, api.Errno) {
	if e := wrong(p, s); e != api.OK {
		return api.Span{}, e
	}
	return between(told(dyadic.Down(s.Lo, p)), told(dyadic.Up(s.Hi, p)))
}

// Add: a + b, outward to p bits.
func Add(a, b api.Span, p int) (api.Span, api.Errno) {
	if e := wrong(p, a, b); e != api.OK {
		return api.Span{}, e
	}
	exact, e := between(told(dyadic.Add(a.Lo, b.Lo)), told(dyadic.Add(a.Hi, b.Hi)))
	if e != api.OK {
		return api.Span{}, e
	}
	return Out(exact, p)
}

// Sub: a - b, outward to p bits.
func Sub(a, b api.Span, p int) (api.Span, api.Errno) {
	if e := wrong(p, a, b); e != api.OK {
		return api.Span{}, e
	}
	less, _ := Neg(b)
	return Add(a, less, p)
}

// Mul: a * b, outward to p bits.
func Mul(a, b api.Span, p int) (api.Span, api.Errno) {
	if e := wrong(p, a, b); e != api.OK {
		return api.Span{}, e
	}
	all, e := products(a, b)
	if e != api.OK {
		return api.Span{}, e
	}
	return Out(api.Span{Lo: least(all[0], all...), Hi: greatest(all[0], all...)}, p)
}

// Sqr: the squares of s, outward to p bits.
func Sqr(s api.Span, p int) (api.Span, api.Errno) {
	if e := wrong(p, s); e != api.OK {
		return api.Span{}, e
	}
	squares, e := between(told(dyadic.Mul(s.Lo, s.Lo)), told(dyadic.Mul(s.Hi, s.Hi)))
	if e != api.OK {
		return api.Span{}, e
	}
	low, high := least(squares.Lo, squares.Hi), greatest(squares.Lo, squares.Hi)
	if sign(s) == 0 {
		low = api.Dyadic{}
	}
	return Out(api.Span{Lo: low, Hi: high}, p)
}

// Quo: a / b, outward to p bits.
func Quo(a, b api.Span, p int) (api.Span, api.Errno) {
	if e := wrong(p, a, b); e != api.OK {
		return api.Span{}, e
	}
	switch sign(b) {
	case 0:
		return api.Span{}, api.ErrZero
	case -1:
		a, _ = Neg(a)
		b, _ = Neg(b)
	}
	// The farther the divisor, the nearer to nought the quotient: which is less above nought and more below it.
	under, over := b.Hi, b.Lo
	if a.Lo.Man.Neg {
		under = b.Lo
	}
	if a.Hi.Man.Neg {
		over = b.Hi
	}
	return between(told(dyadic.QuoDown(a.Lo, under, p)), told(dyadic.QuoUp(a.Hi, over, p)))
}

// products: of each end of a and each end of b.
func products(a, b api.Span) ([]api.Dyadic, api.Errno) {
	var out []api.Dyadic
	for _, x := range ends(a) {
		for _, y := range ends(b) {
			product, e := dyadic.Mul(x, y)
			if e != api.OK {
				return nil, e
			}
			out = append(out, product)
		}
	}
	return out, api.OK
}

// ends: both, or the one of a span of one number alone: long products are dear.
func ends(s api.Span) []api.Dyadic {
	if atMost(s.Hi, s.Lo) {
		return []api.Dyadic{s.Lo}
	}
	return []api.Dyadic{s.Lo, s.Hi}
}
