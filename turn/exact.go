package turn

import (
	"gnomon/api"
	"gnomon/binary"
	"gnomon/dyadic"
	"gnomon/layout"
)

// size is the size of an exact value. Those of nought and one are these numbers themselves.
type size int

const (
	nought size = iota
	one
	pole
)

// value is an exact value: its size, and whether its sign is minus.
type value struct {
	size size
	neg  bool
}

// exactly: the value of fn at x = k/2 + r, q being k mod 4 and neg telling x's sign, where it is an exact one.
func exactly(fn api.Fn, q int, r api.Dyadic, neg bool) (value, bool) {
	whole := len(r.Man.Mag) == 0 // a whole count of quarters of a turn
	switch {
	case whole && fn == api.SinPi:
		return sine(q, neg), true
	case whole && fn == api.CosPi:
		return cosine(q), true
	case whole:
		return tangent(q, neg), true
	case fn == api.TanPi && isQuarter(r):
		return value{one, q%2 == 0}, true
	}
	return value{}, false
}

// isQuarter: is r, which is not nought, from -1/4 on and below 1/4, a quarter by size? Then it is -1/4.
func isQuarter(r api.Dyadic) bool {
	top, _ := dyadic.Top(r)
	return top == -2
}

// sine, cosine, tangent: of pi * k/2.
func sine(q int, neg bool) value {
	if q%2 == 0 {
		return value{nought, neg}
	}
	return value{one, q == 3}
}

func cosine(q int) value {
	if q%2 != 0 {
		return value{nought, false}
	}
	return value{one, q == 2}
}

func tangent(q int, neg bool) value {
	if q%2 != 0 {
		return value{pole, q == 3}
	}
	return value{nought, neg != (q == 2)}
}

// pattern: the value as a pattern of f, a pole as an infinity.
func (v value) pattern(f api.Format) uint64 {
	if v.size == pole {
		w, _ := layout.Of(f)
		return w.Signed(v.neg, w.Infinity())
	}
	b, _ := binary.Join(f, v.neg, uint64(v.size), 0)
	return b
}

// number: the value of any but a pole.
func (v value) number() api.Dyadic {
	if v.neg {
		return dyadic.Of(-int(v.size))
	}
	return dyadic.Of(int(v.size))
}
