package kernel_test

import (
	"math"
	"testing"

	"gnomon/api"
	"gnomon/kernel"
	"gnomon/oracle"
)

// nothing: are both halves noughts above?
func nothing(v api.DD) bool { return math.Float64bits(v.Hi) == 0 && math.Float64bits(v.Lo) == 0 }

// fails looks at a double-double and its opposite.
func fails(t *testing.T, hi, lo float64, want api.Errno) {
	t.Helper()
	for _, a := range []api.DD{{Hi: hi, Lo: lo}, {Hi: -hi, Lo: -lo}} {
		for _, f := range faces() {
			if v, e := f.call(a); e != want || !nothing(v) {
				t.Errorf("%s(%x) is %x, error %d; want error %d", f.name, a, v, e, want)
			}
		}
	}
}

const u = 0x1p-53

// What is not in form, whatever its size is: ErrForm goes ahead of ErrLimit.
func TestErrors24_Form(t *testing.T) {
	for _, a := range [][2]float64{
		{0.5, 0.5}, {1, 1}, {0, 1}, {0, math.SmallestNonzeroFloat64}, {0, -0.5}, {1, -u}, {1, 1.5 * u}, {0.5, u}, {0.5, -u / 2}, {0.5, 0.75 * u}, {13.0 / 16, u}, {0.75, -u},
		{0x1p-71, 0x1p-71}, {0x1p-71, 0x1p-123}, {0x1p-70, -0x1p-123}, {0x1p-70, 1}, {1e300, 1e300}, {1e300, 1e299}, {math.MaxFloat64, math.MaxFloat64}, {math.MaxFloat64, 0x1p970}, {0x1p-1074, 0x1p-1074},
	} {
		fails(t, a[0], a[1], api.ErrForm)
	}
	for _, x := range oracle.EndlessFloats() {
		for _, y := range []float64{0, 0.5, 1, 1e300, 0x1p-1074, math.Inf(1), math.Inf(-1), math.NaN()} {
			fails(t, x, y, api.ErrForm)
			fails(t, y, x, api.ErrForm)
		}
	}
	for _, b := range oracle.NaNs(api.Double) {
		fails(t, math.Float64frombits(b), 0, api.ErrForm)
		fails(t, 0.5, math.Float64frombits(b), api.ErrForm)
	}
}

func TestErrors24_Limit(t *testing.T) {
	above, below := math.Nextafter(13.0/16, 1), math.Nextafter(0x1p-70, 0)
	for _, a := range [][2]float64{
		{1, 0}, {1, u}, {above, 0}, {above, -0x1p-55}, {above, 0x1p-80}, {105.0 / 128, 0}, {53.0 / 64, 0}, {2, 0}, {0x1p57, 0}, {0x1p64, 0}, {1e300, 1e280}, {math.MaxFloat64, 0}, {math.MaxFloat64, -1},
		{0x1p-71, 0}, {below, 0}, {below, 0x1p-125}, {below, -0x1p-150}, {0x1p-100, 0}, {0x1p-300, 0x1p-400}, {0x1p-1022, 0}, {math.SmallestNonzeroFloat64, 0},
	} {
		fails(t, a[0], a[1], api.ErrLimit)
	}
	for exp := -1074; exp < 1024; exp++ {
		if exp < -70 || exp >= 0 {
			fails(t, math.Ldexp(1, exp), 0, api.ErrLimit)
		}
	}
}

// At the ends of the range the Lo does not count.
func TestErrors24_AtTheEnds(t *testing.T) {
	circle := oracle.Around(200)
	for _, a := range []api.DD{{Hi: 13.0 / 16}, {Hi: 13.0 / 16, Lo: 0x1p-54}, {Hi: 13.0 / 16, Lo: -0x1p-54}, {Hi: 0x1p-70}, {Hi: 0x1p-70, Lo: -0x1p-124}, {Hi: 0x1p-70, Lo: 0x1p-123}, {Hi: 0x1p-70, Lo: -math.SmallestNonzeroFloat64}} {
		good(t, circle, a)
		good(t, circle, api.DD{Hi: -a.Hi, Lo: -a.Lo})
	}
}

func evalFails(t *testing.T, fn api.Fn, x float64, want api.Errno) {
	t.Helper()
	if v, e, err := kernel.Eval(fn, x); err != want || e != 0 || !nothing(v) {
		t.Errorf("Eval(%d, %x) is %x, %d, error %d; want error %d", fn, x, v, e, err, want)
	}
}

// endless: infinities and NaNs.
func endless() []float64 {
	out := oracle.EndlessFloats()
	for _, b := range oracle.NaNs(api.Double) {
		out = append(out, math.Float64frombits(b))
	}
	return out
}

// tiny: noughts and numbers below 2^-27.
func tiny() []float64 {
	out := []float64{0, math.Copysign(0, -1)}
	for _, x := range []float64{math.SmallestNonzeroFloat64, 0x1p-1022, 0x1p-300, 0x1p-71, 0x1p-70, 0x1p-53, 0x1p-28, math.Nextafter(0x1p-27, 0)} {
		out = append(out, x, -x)
	}
	return out
}

func TestErrors24_Eval(t *testing.T) {
	for _, fn := range []api.Fn{api.Sin, api.Cos, api.Tan} {
		for _, x := range tiny() {
			evalFails(t, fn, x, api.ErrLimit)
		}
		for _, x := range endless() {
			evalFails(t, fn, x, api.ErrClass)
		}
		for _, x := range []float64{0x1p-27, -0x1p-27} {
			if _, _, e := kernel.Eval(fn, x); e != api.OK {
				t.Errorf("Eval(%d, %x): error %d", fn, x, e)
			}
		}
	}
}

// A function that is none of the three goes ahead of all else.
func TestErrors24_Functions(t *testing.T) {
	for _, fn := range []api.Fn{0, -1, api.SinPi, api.CosPi, api.TanPi, 7, 9, 257, 1<<32 + 1, math.MaxInt, math.MinInt} {
		evalFails(t, fn, 1, api.ErrArg)
		evalFails(t, fn, 1e22, api.ErrArg)
		for _, x := range append(tiny(), endless()...) {
			evalFails(t, fn, x, api.ErrArg)
		}
	}
}
