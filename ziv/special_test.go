package ziv_test

import (
	"math"
	"testing"

	"gnomon/api"
	"gnomon/oracle"
	"gnomon/ziv"
)

// precisions: short and long ones, and the edges.
var precisions = [...]int{1, 2, 3, 24, 52, 53, 54, 128, 500, api.Cap, api.MaxRung - 1, api.MaxRung}

var ladders = [...][2]int{{1, 1}, {1, api.MaxRung}, {7, 9}, {53, 53}, {api.Start, api.Cap}, {api.MaxRung, api.MaxRung}}

// specialIs looks whether all calls answer the special case's pattern, whatever the precision.
func specialIs(t *testing.T, f api.Format, fn api.Fn, b, want uint64) {
	t.Helper()
	for _, p := range precisions {
		if got, ok, e := ziv.Decide(f, fn, b, p); got != want || !ok || e != api.OK {
			t.Errorf("Decide(%d, %d, %x, %d) is %x, %v, error %d; want %x", f, fn, b, p, got, ok, e, want)
		}
	}
	for _, l := range ladders {
		if a, e := ziv.Climb(f, fn, b, l[0], l[1]); a != (ziv.Answer{Bits: want, OK: true, Rung: 0}) || e != api.OK {
			t.Errorf("Climb(%d, %d, %x, %d, %d) is %v, error %d; want %x", f, fn, b, l[0], l[1], a, e, want)
		}
	}
	if got, ok, e := ziv.Value(f, fn, b); got != want || !ok || e != api.OK {
		t.Errorf("Value(%d, %d, %x) is %x, %v, error %d; want %x", f, fn, b, got, ok, e, want)
	}
}

func TestP18_2_NoNumbers(t *testing.T) {
	for f, quiet := range map[api.Format]uint64{api.Single: 0x7fc00001, api.Double: 0x7ff8000000000001} {
		infinity := oracle.Infinity(f)
		for _, b := range append(oracle.NaNs(f), infinity, oracle.Minus(f, infinity)) {
			for _, fn := range functions {
				specialIs(t, f, fn, b, quiet)
			}
		}
	}
}

func TestP18_2_Noughts(t *testing.T) {
	for f, one := range map[api.Format]uint64{api.Single: 0x3f800000, api.Double: 0x3ff0000000000000} {
		for _, b := range []uint64{0, oracle.Minus(f, 0)} {
			for i, want := range []uint64{b, one, b, b, one, b} {
				specialIs(t, f, functions[i], b, want)
			}
		}
	}
}

// Whole numbers, halves and quarters of both signs, and what stands beside them: there the three functions of turns may be exact, and those of radians are not.
func TestP18_2_Turns(t *testing.T) {
	for _, f := range oracle.Formats() {
		exact := 0
		for _, x := range oracle.Eighths(f)[1:] {
			b := oracle.Bits(f, x)
			for _, b := range both(f, []uint64{b - 1, b, b + 1}) {
				for _, fn := range functions[3:] {
					if want, ok := known(f, fn, b); ok {
						specialIs(t, f, fn, b, want)
						exact++
					}
				}
			}
		}
		if exact < 500 {
			t.Errorf("only %d exact cases of format %d have been tried", exact, f)
		}
	}
}

func TestP18_2_Examples(t *testing.T) {
	const one, minus, infinity = 0x3ff0000000000000, uint64(1) << 63, uint64(0x7ff0000000000000)
	for _, c := range []struct {
		fn   api.Fn
		x    float64
		want uint64
	}{
		{api.Sin, math.Copysign(0, -1), minus}, {api.Cos, math.Copysign(0, -1), one}, {api.Tan, math.Inf(-1), 0x7ff8000000000001}, {api.SinPi, 0.5, one}, {api.TanPi, 0.5, infinity}, {api.CosPi, 0.5, 0},
		{api.SinPi, -1, minus}, {api.SinPi, 2, 0}, {api.SinPi, 1.5, minus | one}, {api.CosPi, 1, minus | one}, {api.CosPi, -2, one}, {api.CosPi, -0.5, 0}, {api.TanPi, 1, minus}, {api.TanPi, -1, 0}, {api.TanPi, -0.5, minus | infinity}, {api.TanPi, 0.25, one}, {api.TanPi, 0.75, minus | one}, {api.SinPi, 1e22, 0}, {api.CosPi, 1e22, one},
	} {
		specialIs(t, api.Double, c.fn, bitsOf(c.x), c.want)
	}
	specialIs(t, api.Single, api.SinPi, 0x3fc00000, 0xbf800000)
	specialIs(t, api.Single, api.TanPi, 0xbf000000, 0xff800000)
	specialIs(t, api.Single, api.CosPi, 0x4b800000, 0x3f800000)
}
