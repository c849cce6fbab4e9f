package trig_test

import (
	"math"
	"testing"

	"gnomon/angles"
	"gnomon/api"
	"gnomon/oracle"
	"gnomon/trig"
	"gnomon/turn"
	"gnomon/ziv"
)

// valued: patterns of a format of all classes and sizes, turns in eighths and what stands beside them.
func valued(f api.Format) []uint64 {
	out := append(oracle.Finite(f), oracle.NaNs(f)...)
	out = append(out, oracle.Infinity(f), oracle.Minus(f, oracle.Infinity(f)))
	add := func(x float64) {
		for _, b := range []uint64{oracle.Bits(f, x), oracle.Bits(f, x) - 1, oracle.Bits(f, x) + 1} {
			out = append(out, b, oracle.Minus(f, b))
		}
	}
	for _, x := range oracle.Eighths(f)[1:] {
		add(x)
	}
	for _, x := range angles.Hardest() {
		add(math.Abs(x))
	}
	for exp := -140; exp < 128; exp += 3 {
		add(math.Ldexp(0x1.555556p0, exp))
	}
	return out
}

func TestP26_9_Ladder(t *testing.T) {
	t.Parallel()
	for _, f := range oracle.Formats() {
		list := valued(f)
		inParts(len(list), func(i int) {
			for _, fn := range functions {
				got, ok, e := trig.Value(f, fn, list[i])
				if want, sure, _ := ziv.Value(f, fn, list[i]); got != want || ok != sure || e != api.OK {
					t.Errorf("Value(%d, %d, %x) is %x, %v, error %d; want %x, %v", f, fn, list[i], got, ok, e, want, sure)
				}
			}
		})
	}
}

// Where turn.Exact tells something, Value tells the same.
func TestP26_9_ExactTurns(t *testing.T) {
	for _, f := range oracle.Formats() {
		exact := 0
		for _, b := range valued(f) {
			for fn := api.SinPi; fn <= api.TanPi; fn++ {
				if want, ok, _ := turn.Exact(f, fn, b); ok {
					valueIs(t, f, fn, b, want)
					exact++
				}
			}
		}
		if exact < 500 {
			t.Errorf("only %d exact values of format %d", exact, f)
		}
	}
}

// Elsewhere it is RN of f(x), as the oracle tells it.
func TestP26_9_Rounded(t *testing.T) {
	t.Parallel()
	c := oracle.Around(250)
	for _, f := range oracle.Formats() {
		list := oracle.Finite(f)[2:]
		inParts(len(list), func(i int) {
			b := list[i]
			wide := bitsOf(oracle.Float(f, b))
			values := map[bool]oracle.Values{false: c.Radians(wide), true: c.Turns(wide)}
			for _, fn := range functions {
				turns := fn >= api.SinPi
				if _, exact := oracle.ExactTurn(fn, oracle.ValueOf(f, b)); turns && exact {
					continue
				}
				if want, ok := values[turns].Of(fn).Rounded(f); ok {
					valueIs(t, f, fn, b, want)
				} else {
					t.Errorf("function %d of %x is not told closely enough", fn, b)
				}
			}
		})
	}
}

// Of Double it answers what a Lib does.
func TestP26_9_Libs(t *testing.T) {
	t.Parallel()
	list := questions()
	inParts(len(list), func(i int) {
		a := list[i]
		if got, ok, e := trig.Value(api.Double, a.fn, a.b); got != a.want || !ok || e != api.OK {
			t.Errorf("Value(Double, %d, %x) is %x, %v, error %d; want %x", a.fn, a.b, got, ok, e, a.want)
		}
	})
}

var noFunctions = [...]api.Fn{0, -1, 7, 8, 33, 260, 1<<32 + 1, math.MaxInt, math.MinInt}

func valueFails(t *testing.T, f api.Format, fn api.Fn, b uint64, want api.Errno) {
	t.Helper()
	if got, ok, e := trig.Value(f, fn, b); got != 0 || ok || e != want {
		t.Errorf("Value(%d, %d, %x) is %x, %v, error %d; want error %d", f, fn, b, got, ok, e, want)
	}
}

// A format or a function that is none goes ahead of a pattern that is none.
func TestP26_9_Errors(t *testing.T) {
	for _, b := range append(anyPatterns(), oracle.NoPatterns()...) {
		for _, fn := range noFunctions {
			for _, f := range append(oracle.NoFormats(), oracle.Formats()...) {
				valueFails(t, f, fn, b, api.ErrArg)
			}
		}
		for _, fn := range functions {
			for _, f := range oracle.NoFormats() {
				valueFails(t, f, fn, b, api.ErrArg)
			}
		}
	}
	for _, b := range oracle.NoPatterns() {
		for _, fn := range functions {
			valueFails(t, api.Single, fn, b, api.ErrForm)
		}
	}
}

func TestP26_9_Examples(t *testing.T) {
	valueIs(t, api.Single, api.Sin, 0x3f800000, 0x3f576aa4)
	valueIs(t, api.Double, api.TanPi, 0x3fe0000000000000, 0x7ff0000000000000)
	valueIs(t, api.Double, api.TanPi, 0x3fe8000000000000, 0xbff0000000000000)
	valueIs(t, api.Double, api.SinPi, 1, 3)
	valueIs(t, api.Single, api.CosPi, 0x3f000000, 0)
	valueFails(t, 96, api.Sin, 0, api.ErrArg)
	valueFails(t, api.Single, api.Sin, 0x100000000, api.ErrForm)
}
