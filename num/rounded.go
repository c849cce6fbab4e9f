package num

import (
	"gnomon/api"
	"gnomon/nat"
	"gnomon/natdiv"
)

// fraction: a number between whole ones: whole is its size rounded towards nought, and of what was cut off there, is it anything at all, and is it below, equal to or above one half?
type fraction struct {
	neg     bool
	whole   []uint64
	inexact bool
	half    int
}

// FloorShr: x / 2^n, rounded down.
func FloorShr(x api.Int, n int) (api.Int, api.Errno) {
	f, e := shifted(x, n)
	return f.floor(), e
}

// CeilShr: x / 2^n, rounded up.
func CeilShr(x api.Int, n int) (api.Int, api.Errno) {
	f, e := shifted(x, n)
	return f.ceil(), e
}

// NearShr: x / 2^n, to the nearest, ties to even.
func NearShr(x api.Int, n int) (api.Int, api.Errno) {
	f, e := shifted(x, n)
	return f.near(), e
}

// FloorDiv: x / y, rounded down.
func FloorDiv(x, y api.Int) (api.Int, api.Errno) {
	f, e := divided(x, y)
	return f.floor(), e
}

// CeilDiv: x / y, rounded up.
func CeilDiv(x, y api.Int) (api.Int, api.Errno) {
	f, e := divided(x, y)
	return f.ceil(), e
}

// NearDiv: x / y, to the nearest, ties to even.
func NearDiv(x, y api.Int) (api.Int, api.Errno) {
	f, e := divided(x, y)
	return f.near(), e
}

// Mod: x - y * FloorDiv(x, y).
func Mod(x, y api.Int) (api.Int, api.Errno) {
	if !Form(x) || !Form(y) {
		return api.Int{}, api.ErrForm
	}
	_, rest, e := natdiv.QuoRem(x.Mag, y.Mag)
	if len(rest) > 0 && x.Neg != y.Neg {
		// The quotient was rounded towards nought, which is up: one y more makes it the floor.
		rest, e = nat.Sub(y.Mag, rest)
	}
	return signed(y.Neg, rest), e
}

// shifted: x / 2^n.
func shifted(x api.Int, n int) (fraction, api.Errno) {
	if n < 0 {
		return fraction{}, api.ErrArg
	}
	if !Form(x) {
		return fraction{}, api.ErrForm
	}
	whole, e := nat.Shr(x.Mag, n)
	f := fraction{neg: x.Neg, whole: whole, half: -1}
	f.inexact = len(x.Mag) > 0 && nat.Trail(x.Mag) < n
	if nat.Bit(x.Mag, n-1) {
		f.half = 0
		if nat.Trail(x.Mag) < n-1 {
			f.half = 1
		}
	}
	return f, e
}

// divided: x / y.
func divided(x, y api.Int) (fraction, api.Errno) {
	if !Form(x) || !Form(y) {
		return fraction{}, api.ErrForm
	}
	whole, rest, e := natdiv.QuoRem(x.Mag, y.Mag)
	if e != api.OK {
		return fraction{}, e
	}
	// The rest against one half of y is the rest against what it lacks of y: twice the rest may be too long.
	lack, e := nat.Sub(y.Mag, rest)
	return fraction{x.Neg != y.Neg, whole, len(rest) > 0, nat.Cmp(rest, lack)}, e
}

func (f fraction) floor() api.Int { return f.rounded(f.inexact && f.neg) }

func (f fraction) ceil() api.Int { return f.rounded(f.inexact && !f.neg) }

func (f fraction) near() api.Int {
	return f.rounded(f.half > 0 || f.half == 0 && nat.Bit(f.whole, 0))
}

// rounded: the whole number towards nought, or the next one away from it. (Where something was cut off, whole is at most half the greatest natural: one more has room.)
func (f fraction) rounded(away bool) api.Int {
	size := f.whole
	if away {
		size, _ = nat.Add(f.whole, nat.Word(1))
	}
	return signed(f.neg, size)
}
