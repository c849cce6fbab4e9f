package kernel

import (
	"math"
	"slices"

	"gnomon/api"
	"gnomon/dd"
	"gnomon/sintable"
)

// The errors that are told below are relative to the answer. The double-doubles' own, of 2^-100 and less, hardly count: nearly all comes from the floats of the series, of four roundings to 2^-53 each in their second parts, which are less than 2^-34 of the sine and 2^-32 of the cosine.

// waves are the sine and the cosine of one angle.
type waves struct{ sin, cos api.DD }

// angle is a remainder: its size is a row's angle and a small one, before or behind it.
type angle struct {
	neg        bool
	row, small waves
}

// least is the size below which no remainder but nought lies.
const least = 0x1p-70

// split: a remainder as an angle.
func split(t api.DD) (angle, api.Errno) {
	if !dd.Form(t) {
		return angle{}, api.ErrForm
	}
	j, e := sintable.Place(t.Hi)
	if e != api.OK {
		return angle{}, e
	}
	if t.Hi != 0 && math.Abs(t.Hi) < least {
		return angle{}, api.ErrLimit
	}
	neg := t.Hi < 0
	if neg {
		t = dd.Neg(t)
	}
	sin, cos, _ := sintable.Row(j)
	d := dd.Sub(t, dd.Of(float64(j)/api.Steps))
	return angle{neg, waves{sin, cos}, wavesOf(d)}, api.OK
}

// sin: off by less than 2^-82: at the first row's lower end, where it is worst, the row's sine is twice as great as the answer.
func (a angle) sin() api.DD {
	v := dd.Add(dd.Mul(a.row.sin, a.small.cos), dd.Mul(a.row.cos, a.small.sin))
	if a.neg {
		return dd.Neg(v)
	}
	return v
}

// cos: off by less than 2^-83.
func (a angle) cos() api.DD {
	return dd.Sub(dd.Mul(a.row.cos, a.small.cos), dd.Mul(a.row.sin, a.small.sin))
}

// tan, cot: off by less than 2^-81.
func (a angle) tan() api.DD { return dd.Div(a.sin(), a.cos()) }

func (a angle) cot() api.DD { return dd.Div(a.cos(), a.sin()) }

// wavesOf: sine and cosine of a d of hardly more than 1/128 by size. The sine is off by less than 2^-85, the cosine by less than 2^-83; what is left out of the two sums is less than 2^-95 and 2^-91.
func wavesOf(d api.DD) waves {
	// A smaller one stands beside a row's angle, of which it changes nothing that counts; and its square might not be fit.
	if math.Abs(d.Hi) < 0x1p-140 {
		d = api.DD{}
	}
	z := dd.Sqr(d)
	sin := series(z, api.DD{Hi: -0x1.5555555555555p-3, Lo: -0x1.5555555555555p-57}, 1.0/120, -1.0/5040, 1.0/362880)
	cos := series(z, dd.Of(-0.5), 1.0/24, -1.0/720, 1.0/40320)
	return waves{dd.Add(d, dd.Mul(d, sin)), dd.Add(dd.Of(1), cos)}
}

// series: z*first + z^2*others[0] + z^3*others[1] + ..; from the second part on these are small enough for floats.
func series(z, first api.DD, others ...float64) api.DD {
	rest := 0.0
	for _, c := range slices.Backward(others) {
		rest = float64(z.Hi * (c + rest))
	}
	return dd.Mul(z, dd.Add(first, dd.Of(rest)))
}
