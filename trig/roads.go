package trig

import (
	"gnomon/api"
	"gnomon/ziv"
)

// road is a way to the functions of patterns of Double. Each tells a pattern and true, where it is certain, else 0 and false.
type road interface {
	sin(b uint64) (uint64, bool)
	cos(b uint64) (uint64, bool)
	tan(b uint64) (uint64, bool)
}

// chosen: the call of a road that tells fn, and whether there is one.
func chosen(fn api.Fn) (func(r road, b uint64) (uint64, bool), bool) {
	if fn < api.Sin || fn > api.Tan {
		return nil, false
	}
	calls := [...]func(r road, b uint64) (uint64, bool){api.Sin: road.sin, api.Cos: road.cos, api.Tan: road.tan}
	return calls[fn], true
}

// nowhere is the road of a Lib that New didn't make.
type nowhere struct{}

func (nowhere) sin(uint64) (uint64, bool) { return 0, false }

func (nowhere) cos(uint64) (uint64, bool) { return 0, false }

func (nowhere) tan(uint64) (uint64, bool) { return 0, false }

// slow is the road of whole numbers: layer 18's ladder.
type slow struct{}

func (r slow) sin(b uint64) (uint64, bool) { return r.double(api.Sin, b) }

func (r slow) cos(b uint64) (uint64, bool) { return r.double(api.Cos, b) }

func (r slow) tan(b uint64) (uint64, bool) { return r.double(api.Tan, b) }

// double: a function of a pattern of Double, which every word is: so there is no error.
func (r slow) double(fn api.Fn, b uint64) (uint64, bool) {
	bits, ok, _ := r.climb(api.Double, fn, b)
	return bits, ok
}

// climb: any of the six functions in either format.
func (slow) climb(f api.Format, fn api.Fn, b uint64) (uint64, bool, api.Errno) {
	return ziv.Value(f, fn, b)
}

// fast is the road of floats where these are certain, and else the slow one, of which it also has all that floats don't tell.
type fast struct {
	slow
	quick floats
}

func (r fast) sin(b uint64) (uint64, bool) { return either(b, r.quick.sin, r.slow.sin) }

func (r fast) cos(b uint64) (uint64, bool) { return either(b, r.quick.cos, r.slow.cos) }

func (r fast) tan(b uint64) (uint64, bool) { return either(b, r.quick.tan, r.slow.tan) }

// either: what the first call tells, if it is certain, else what the second one does.
func either(b uint64, first, second func(b uint64) (uint64, bool)) (uint64, bool) {
	if bits, ok := first(b); ok {
		return bits, true
	}
	return second(b)
}
