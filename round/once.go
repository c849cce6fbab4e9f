package round

import (
	"gnomon/api"
	"gnomon/dyadic"
	"gnomon/layout"
	"gnomon/nat"
	"gnomon/natdiv"
	"gnomon/num"
)

// Quotient: the pattern of a / b.
func Quotient(f api.Format, a, b api.Dyadic) (uint64, api.Errno) {
	w, e := layout.Of(f)
	switch {
	case e != api.OK:
		return 0, e
	case !dyadic.Form(a) || !dyadic.Form(b):
		return 0, api.ErrForm
	case num.Sign(b.Man) == 0:
		return 0, api.ErrZero
	case tooLong(a) || tooLong(b):
		return 0, api.ErrLimit
	}
	places := max(enough(w)+nat.Bits(b.Man.Mag)-nat.Bits(a.Man.Mag), 0)
	x, _ := nat.Shl(a.Man.Mag, places)
	floor, rest, _ := natdiv.QuoRem(x, b.Man.Mag)
	m := withMark(a.Man.Neg != b.Man.Neg, floor, rest)
	return nearest(w, m, a.Exp-b.Exp-places-1), api.OK
}

// Root: the pattern of the square root of a.
func Root(f api.Format, a api.Dyadic) (uint64, api.Errno) {
	w, e := layout.Of(f)
	switch {
	case e != api.OK:
		return 0, e
	case !dyadic.Form(a):
		return 0, api.ErrForm
	case num.Sign(a.Man) < 0:
		return 0, api.ErrSign
	case tooLong(a):
		return 0, api.ErrLimit
	}
	places := max(2*enough(w)-nat.Bits(a.Man.Mag), 0)
	// Only an even exponent has a half.
	places += (a.Exp - places) & 1
	x, _ := nat.Shl(a.Man.Mag, places)
	floor, rest, _ := natdiv.Root(x)
	return nearest(w, withMark(false, floor, rest), (a.Exp-places)/2-1), api.OK
}

// tooLong: has d more limbs than a quotient or a root may be asked of?
func tooLong(d api.Dyadic) bool { return len(d.Man.Mag) > api.MaxLimbs/2 }

// enough: so many bits a quotient's or root's whole part is given at least, for then the midpoints about it are whole.
func enough(w layout.Widths) int { return w.Mantissa + 1 }

// withMark: twice the floor of a number, and one more where the number has a rest beside its floor. This stands below, at or above twice each whole number, and so twice each midpoint, just as twice the number itself does: to round it is to round the number, once.
func withMark(neg bool, floor, rest []uint64) api.Int {
	size, _ := nat.Shl(floor, 1)
	if nat.Bits(rest) > 0 {
		size, _ = nat.Add(size, nat.Word(1))
	}
	return api.Int{Neg: neg, Mag: size}
}

// nearest: the pattern of m * 2^e, for any e whose sum with m's bits is an int.
func nearest(w layout.Widths, m api.Int, e int) uint64 {
	if num.Sign(m) == 0 {
		return 0
	}
	top := e + nat.Bits(m.Mag) - 1
	if top >= w.Beyond() {
		return w.Signed(m.Neg, w.Infinity())
	}
	unit := w.Unit(top)
	// Where the multiple has grown by a bit, Size answers what follows: the next exponent's first pattern, or the infinity.
	return w.Signed(m.Neg, w.Size(multiple(m, e-unit), unit))
}

// multiple: the size of m * 2^n, rounded to a whole number that is no longer than a word.
func multiple(m api.Int, n int) uint64 {
	if n < 0 {
		m, _ = num.NearShr(m, -n)
	} else {
		m, _ = num.Shl(m, n)
	}
	if len(m.Mag) == 0 {
		return 0
	}
	return m.Mag[0]
}
