package soft

import (
	"gnomon/api"
	"gnomon/binary"
	"gnomon/layout"
	"gnomon/round"
)

// operand is what a pattern stands for, or an exact sum or product of such: a value of one of the four types below.
type operand interface {
	// below: is its sign set? That of a NaN never is.
	below() bool
	// signed: the same with its sign set or not.
	signed(below bool) operand
	// pattern: what it rounds to.
	pattern(f api.Format) uint64
}

type nan struct{}

func (nan) below() bool         { return false }
func (nan) signed(bool) operand { return nan{} }
func (nan) pattern(f api.Format) uint64 {
	quiet, _ := binary.Quiet(f)
	return quiet
}

type infinite struct{ neg bool }

func (x infinite) below() bool               { return x.neg }
func (x infinite) signed(below bool) operand { return infinite{below} }
func (x infinite) pattern(f api.Format) uint64 {
	w, _ := layout.Of(f)
	return w.Signed(x.neg, w.Infinity())
}

type nought struct{ neg bool }

func (x nought) below() bool               { return x.neg }
func (x nought) signed(below bool) operand { return nought{below} }
func (x nought) pattern(f api.Format) uint64 {
	w, _ := layout.Of(f)
	return w.Signed(x.neg, 0)
}

// finite is a number other than nought, of any length.
type finite struct{ number api.Dyadic }

func (x finite) below() bool { return x.number.Man.Neg }
func (x finite) signed(below bool) operand {
	x.number.Man.Neg = below
	return x
}
func (x finite) pattern(f api.Format) uint64 {
	b, _ := round.Nearest(f, x.number)
	return b
}

// opposite: x with its sign turned.
func opposite(x operand) operand { return x.signed(!x.below()) }

// operands: what the patterns stand for. All are of one format, so the first fault is the one with the least number.
func operands(f api.Format, patterns ...uint64) ([]operand, api.Errno) {
	out := make([]operand, len(patterns))
	for i, b := range patterns {
		x, e := operandOf(f, b)
		if e != api.OK {
			return nil, e
		}
		out[i] = x
	}
	return out, api.OK
}

func operandOf(f api.Format, b uint64) (operand, api.Errno) {
	class, e := binary.ClassOf(f, b)
	if e != api.OK {
		return nil, e
	}
	w, _ := layout.Of(f)
	neg := b&w.Sign() != 0
	switch class {
	case binary.NaN:
		return nan{}, api.OK
	case binary.Infinite:
		return infinite{neg}, api.OK
	case binary.Zero:
		return nought{neg}, api.OK
	}
	number, _ := binary.Value(f, b)
	return finite{number}, api.OK
}
