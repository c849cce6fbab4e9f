package ziv

import (
	"gnomon/api"
	"gnomon/binary"
	"gnomon/refval"
	"gnomon/round"
	"gnomon/turn"
)

// question is an f(x) whose pattern is asked for.
type question struct {
	special bool                       // whether the pattern is known at every precision
	rung    func(p int) (uint64, bool) // the pattern and true, where precision p tells it; else 0 and false
}

// needed: the precision that an answer of rung r needed: none in a special case.
func (q question) needed(r int) int {
	if q.special {
		return 0
	}
	return r
}

// ask: the question for the function and the pattern; ErrArg or ErrForm where one of them is none.
func ask(f api.Format, fn api.Fn, b uint64) (question, api.Errno) {
	if fn < api.Sin || fn > api.TanPi {
		return question{}, api.ErrArg
	}
	class, e := binary.ClassOf(f, b)
	if e != api.OK {
		return question{}, e
	}
	if bits, ok := special(f, fn, b, class); ok {
		return question{special: true, rung: func(int) (uint64, bool) { return bits, true }}, api.OK
	}
	return question{rung: spanned(f, fn, b)}, api.OK
}

// special: the pattern of f(x) where no span is needed to tell it, and whether that is so.
func special(f api.Format, fn api.Fn, b uint64, class binary.Class) (uint64, bool) {
	switch {
	case ofTurns(fn): // layer 17 knows the NaNs, the infinities and the noughts too
		bits, ok, _ := turn.Exact(f, fn, b)
		return bits, ok
	case class == binary.NaN || class == binary.Infinite:
		bits, _ := binary.Quiet(f)
		return bits, true
	case class == binary.Zero && fn == api.Cos:
		bits, _ := binary.Join(f, false, 1, 0)
		return bits, true
	case class == binary.Zero:
		return b, true
	}
	return 0, false
}

// ofTurns: is fn a function of pi times x?
func ofTurns(fn api.Fn) bool { return fn >= api.SinPi }

// spanned: the rung that takes a span of f(x), x finite and no special case. A span with two patterns holds a midpoint, and is no wider than 2^-p * |f(x)|: so only a midpoint as near as that keeps the rung from telling.
func spanned(f api.Format, fn api.Fn, b uint64) func(p int) (uint64, bool) {
	wide := widened(f, b)
	return func(p int) (uint64, bool) {
		bits, ok, _ := round.Decide(f, enclosed(fn, wide, p))
		return bits, ok
	}
}

// widened: the pattern of Double with b's number.
func widened(f api.Format, b uint64) uint64 {
	if f == api.Single {
		b, _ = binary.Widen(b)
	}
	return b
}

// enclosed: a span of relative width at most 2^-p that holds f(x). No error is left: function, class and precision have been looked at.
func enclosed(fn api.Fn, wide uint64, p int) api.Span {
	if ofTurns(fn) {
		s, _ := turn.Enclose(fn, wide, p)
		return s
	}
	s, _ := refval.Enclose(fn, wide, p)
	return s
}
