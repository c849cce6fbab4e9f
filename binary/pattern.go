package binary

import (
	"math/bits"

	"gnomon/api"
	"gnomon/layout"
)

// pattern is a pattern taken apart, and the widths of its format.
type pattern struct {
	layout.Widths
	neg  bool
	size uint64
}

// patternOf: b as a pattern of f.
func patternOf(f api.Format, b uint64) (pattern, api.Errno) {
	w, e := layout.Of(f)
	if e != api.OK {
		return pattern{}, e
	}
	if bits.Len64(b) > w.Pattern {
		return pattern{}, api.ErrForm
	}
	return pattern{w, b&w.Sign() != 0, b &^ w.Sign()}, api.OK
}

// ranked: b as a pattern of f that has a rank: any but a NaN.
func ranked(f api.Format, b uint64) (pattern, api.Errno) {
	p, e := patternOf(f, b)
	if e == api.OK && p.class() == NaN {
		return pattern{}, api.ErrClass
	}
	return p, e
}

// finite: b as a pattern of f that has a number.
func finite(f api.Format, b uint64) (pattern, api.Errno) {
	p, e := ranked(f, b)
	if e == api.OK && p.class() == Infinite {
		return pattern{}, api.ErrClass
	}
	return p, e
}

func (p pattern) class() Class {
	switch {
	case p.size == 0:
		return Zero
	case p.size < 1<<(p.Mantissa-1):
		return Subnormal
	case p.size < p.Infinity():
		return Normal
	case p.size == p.Infinity():
		return Infinite
	}
	return NaN
}
