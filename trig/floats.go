package trig

import (
	"math"

	"gnomon/accept"
	"gnomon/api"
	"gnomon/kernel"
)

const (
	quiet = 0x7ff8000000000001
	one   = 0x3ff0000000000000
)

// tiny is the size below which the kernel takes no number, and isn't needed: the sine of such an x lies within x^3/6 of x and the tangent within hardly more than x^3/3, about a sixth of the gap to the next number at most; and the cosine less than 2^-55 below 1, half way to the midpoint there.
const tiny = 0x1p-27

// floats is the fast road by itself.
type floats struct{}

func (floats) sin(b uint64) (uint64, bool) { return reckoned(api.Sin, b, b) }

func (floats) cos(b uint64) (uint64, bool) { return reckoned(api.Cos, b, one) }

func (floats) tan(b uint64) (uint64, bool) { return reckoned(api.Tan, b, b) }

// reckoned: a function of x, which is the pattern near where x is tiny or a nought.
func reckoned(fn api.Fn, b, near uint64) (uint64, bool) {
	x := math.Float64frombits(b)
	if math.IsNaN(x) || math.IsInf(x, 0) {
		return quiet, true
	}
	if math.Abs(x) < tiny {
		return near, true
	}
	v, e, _ := kernel.Eval(fn, x) // no error is left: function, class and size have been looked at
	// Twice the kernel's error is asked for: so no midpoint lies quite near to f(x), and the slow road is certain there too.
	return accept.Accept(v, e+1)
}
