package calc

import (
	"gnomon/api"
	"gnomon/soft"
	"gnomon/trig"
)

// work is something to be reckoned from so many arguments, and whether its answer is certain. No call that is made for it can answer an error, as every word is a pattern of Double.
type work struct {
	count int
	call  func(arguments []uint64) (uint64, bool)
}

// step is a work of a plan, and the place of its first byte.
type step struct {
	work
	at int
}

// reckoned: what a plan comes to, in which each step stands behind those that its arguments come from. Gives up at the first one that isn't certain.
func reckoned(plan []step) uint64 {
	var values stack[uint64]
	for _, s := range plan {
		value, ok := s.call(values.take(s.count))
		if !ok {
			panic(fault{s.at, api.ErrHard})
		}
		values.put(value)
	}
	return values.take(1)[0]
}

// always: a work that answers the value.
func always(value uint64) work {
	return work{0, func([]uint64) (uint64, bool) { return value, true }}
}

func negation() work { return ofOne(soft.Neg) }

// operation: the work of + - * or /.
func operation(mark string) work {
	switch mark {
	case "+":
		return ofTwo(soft.Add)
	case "-":
		return ofTwo(soft.Sub)
	case "*":
		return ofTwo(soft.Mul)
	}
	return ofTwo(soft.Div)
}

// function: the work of a function's word.
func function(word string, lib *trig.Lib) work {
	switch word {
	case "sin":
		return ofRoad(lib.Sin)
	case "cos":
		return ofRoad(lib.Cos)
	case "tan":
		return ofRoad(lib.Tan)
	case "sinpi":
		return ofTurn(api.SinPi)
	case "cospi":
		return ofTurn(api.CosPi)
	case "tanpi":
		return ofTurn(api.TanPi)
	case "sqrt":
		return ofOne(soft.Sqrt)
	case "abs":
		return ofOne(soft.Abs)
	}
	return ofThree(soft.Fma)
}

// constant: the value of a constant's word.
func constant(word string) uint64 {
	switch word {
	case "pi":
		return 0x400921fb54442d18
	case "inf":
		return 0x7ff0000000000000
	}
	return 0x7ff8000000000001
}

func ofOne(call func(f api.Format, a uint64) (uint64, api.Errno)) work {
	return work{1, func(x []uint64) (uint64, bool) {
		b, _ := call(api.Double, x[0])
		return b, true
	}}
}

func ofTwo(call func(f api.Format, a, b uint64) (uint64, api.Errno)) work {
	return work{2, func(x []uint64) (uint64, bool) {
		b, _ := call(api.Double, x[0], x[1])
		return b, true
	}}
}

func ofThree(call func(f api.Format, a, b, c uint64) (uint64, api.Errno)) work {
	return work{3, func(x []uint64) (uint64, bool) {
		b, _ := call(api.Double, x[0], x[1], x[2])
		return b, true
	}}
}

// ofRoad: a function of radians, by the road whose method is handed in.
func ofRoad(call func(b uint64) (uint64, bool)) work {
	return work{1, func(x []uint64) (uint64, bool) { return call(x[0]) }}
}

// ofTurn: a function of pi times x.
func ofTurn(fn api.Fn) work {
	return work{1, func(x []uint64) (uint64, bool) {
		b, ok, _ := trig.Value(api.Double, fn, x[0])
		return b, ok
	}}
}
