package rules

import (
	"math"
	"slices"
	"testing"

	"gnomon/api"
	"gnomon/dd"
	"gnomon/kernel"
	"gnomon/nat"
	"gnomon/sintable"
)

// halvesOr: the halves of a double-double beside an error.
func halvesOr(a api.DD, e api.Errno) ([]limbs, api.Errno) {
	out, _ := halves(a)
	return out, e
}

func ofRow(j int) call {
	return plain("sintable.Row", func() ([]limbs, api.Errno) {
		sin, cos, e := sintable.Row(j)
		out, _ := words(sin.Hi, sin.Lo, cos.Hi, cos.Lo)
		return out, e
	})
}

func ofRemainder(a api.DD) []call {
	return []call{
		plain("kernel.Sin", func() ([]limbs, api.Errno) { return halvesOr(kernel.Sin(a)) }),
		plain("kernel.Cos", func() ([]limbs, api.Errno) { return halvesOr(kernel.Cos(a)) }),
		plain("kernel.Tan", func() ([]limbs, api.Errno) { return halvesOr(kernel.Tan(a)) }),
	}
}

// ofAngle: the calls of layers 23 and 24 at a float.
func ofAngle(x float64) []call {
	out := append(ofRemainder(dd.Of(x)), plain("sintable.Place", func() ([]limbs, api.Errno) { return fields(number(sintable.Place(x))) }))
	for _, fn := range allFunctions() {
		out = append(out, plain("kernel.Eval", func() ([]limbs, api.Errno) {
			a, off, e := kernel.Eval(fn, x)
			lists, _ := halves(a)
			return append(lists, nat.Word(uint64(off))), e
		}))
	}
	return out
}

func kernelCalls() []call {
	var out []call
	for j := -2; j < api.MaxRow+3; j++ {
		out = append(out, ofRow(j))
	}
	out = append(out, ofRow(math.MinInt), ofRow(math.MaxInt))
	list := slices.Concat(someFloats(), []float64{0x1p-27, 0x1p-70, 0x1p-71, 1.0 / 128, 0.5, 0.75, 51.0 / 64, 13.0 / 16, math.Nextafter(13.0/16, 1), 1e22, 0x1.6ac5b262ca1ffp+849})
	for _, x := range list {
		out = slices.Concat(out, ofAngle(x), ofAngle(-x))
		for _, y := range list {
			out = append(out, ofRemainder(api.DD{Hi: x, Lo: y})...)
		}
	}
	for exp := -1074; exp < 1024; exp++ {
		x := math.Ldexp(0x1.5555555555555p0, exp)
		out = slices.Concat(out, ofAngle(x), ofAngle(-x))
	}
	return out
}

func TestKernelsKeepTheRules(t *testing.T) {
	for _, c := range kernelCalls() {
		holds(t, c, nil)
	}
}

func TestKernelsAreToldAnew(t *testing.T) {
	toldAnew(t, kernelCalls())
}
