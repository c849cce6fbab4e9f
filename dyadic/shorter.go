package dyadic

import (
	"gnomon/api"
	"gnomon/nat"
	"gnomon/num"
)

// way is the side to which what has no place is rounded: whole numbers' shifts and quotients on that side.
type way struct {
	shift  func(x api.Int, n int) (api.Int, api.Errno)
	divide func(x, y api.Int) (api.Int, api.Errno)
}

func down() way { return way{num.FloorShr, num.FloorDiv} }

func up() way { return way{num.CeilShr, num.CeilDiv} }

// Down: the greatest number of at most p bits that is at most d.
func Down(d api.Dyadic, p int) (api.Dyadic, api.Errno) { return down().toBits(d, p) }

// Up: the least number of at most p bits that is at least d.
func Up(d api.Dyadic, p int) (api.Dyadic, api.Errno) { return up().toBits(d, p) }

// DownAt: the greatest multiple of 2^e that is at most d.
func DownAt(d api.Dyadic, e int) (api.Dyadic, api.Errno) { return down().toGrid(d, e) }

// UpAt: the least multiple of 2^e that is at least d.
func UpAt(d api.Dyadic, e int) (api.Dyadic, api.Errno) { return up().toGrid(d, e) }

// QuoDown: a / b, as Down at p bits.
func QuoDown(a, b api.Dyadic, p int) (api.Dyadic, api.Errno) { return down().quotient(a, b, p) }

// QuoUp: a / b, as Up at p bits.
func QuoUp(a, b api.Dyadic, p int) (api.Dyadic, api.Errno) { return up().quotient(a, b, p) }

func (w way) toBits(d api.Dyadic, p int) (api.Dyadic, api.Errno) {
	if p < 1 || p > api.MaxPrec {
		return api.Dyadic{}, api.ErrArg
	}
	if !Form(d) {
		return api.Dyadic{}, api.ErrForm
	}
	return w.cut(d.Man, d.Exp, p)
}

func (w way) toGrid(d api.Dyadic, e int) (api.Dyadic, api.Errno) {
	if !Form(d) {
		return api.Dyadic{}, api.ErrForm
	}
	if num.Sign(d.Man) == 0 || e <= d.Exp {
		return copied(d), api.OK
	}
	// Beyond all bits of d each shift gives the same, and e - d.Exp itself may wrap.
	places := min(e, d.Exp+nat.Bits(d.Man.Mag)) - d.Exp
	multiple, _ := w.shift(d.Man, places)
	return Make(multiple, e)
}

func (w way) quotient(a, b api.Dyadic, p int) (api.Dyadic, api.Errno) {
	switch {
	case p < 1 || p > api.MaxPrec:
		return api.Dyadic{}, api.ErrArg
	case !Form(a) || !Form(b):
		return api.Dyadic{}, api.ErrForm
	case num.Sign(b.Man) == 0:
		return api.Dyadic{}, api.ErrZero
	case max(len(a.Man.Mag), len(b.Man.Mag)) > api.MaxLimbs/2:
		return api.Dyadic{}, api.ErrLimit
	}
	x, y, places := withBits(a.Man, b.Man, p)
	// All numbers of at most p bits that are as great as x/y are whole: so it may become whole ahead of the cut, on the same side.
	whole, _ := w.divide(x, y)
	return w.cut(whole, a.Exp-b.Exp-places, p)
}

// withBits: x and y, one of them shifted, so that their quotient, now 2^places times what it was, has p or p + 1 bits ahead of its point. The shifted one has at most MaxPrec bits more than the other, and so at most MaxLimbs limbs.
func withBits(x, y api.Int, p int) (api.Int, api.Int, int) {
	places := p + nat.Bits(y.Mag) - nat.Bits(x.Mag)
	if places < 0 {
		y, _ = num.Shl(y, -places)
	} else {
		x, _ = num.Shl(x, places)
	}
	return x, y, places
}

// cut: m * 2^e to p bits. The twos go over into the exponent only behind the cut: ahead of it the exponent may be beyond its limit where the answer's is not.
func (w way) cut(m api.Int, e, p int) (api.Dyadic, api.Errno) {
	places := max(nat.Bits(m.Mag)-p, 0)
	short, _ := w.shift(m, places)
	return Make(short, e+places)
}
