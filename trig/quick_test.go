package trig_test

import (
	"math"
	"testing"

	"gnomon/api"
	"gnomon/oracle"
	"gnomon/trig"
)

var noRadians = [...]api.Fn{0, -1, api.SinPi, api.CosPi, api.TanPi, 7, 9, 257, 1<<32 + 1, math.MaxInt, math.MinInt}

func TestP26_7_Errors(t *testing.T) {
	for _, b := range anyPatterns() {
		for _, fn := range noRadians {
			if got, ok, e := trig.Quick(fn, b); got != 0 || ok || e != api.ErrArg {
				t.Errorf("Quick(%d, %x) is %x, %v, error %d", fn, b, got, ok, e)
			}
		}
	}
}

// certain: need Quick be true, whatever the value's midpoints are?
func (a asked) certain() bool {
	size := math.Abs(math.Float64frombits(a.b))
	return size < 0x1p-27 || a.fn == api.Sin && size < 0x1p-26
}

func TestP26_7_P26_8_Quick(t *testing.T) {
	t.Parallel()
	sure, unsure := 0, map[api.Fn]int{}
	for _, a := range questions() {
		got, ok, e := trig.Quick(a.fn, a.b)
		switch {
		case e != api.OK:
			t.Errorf("Quick(%d, %x): error %d", a.fn, a.b, e)
		case ok && got != a.want:
			t.Errorf("Quick(%d, %x) is %x, true; want %x", a.fn, a.b, got, a.want)
		case ok && !a.far:
			t.Errorf("P26.8: Quick(%d, %x) is true", a.fn, a.b)
		case !ok && got != 0:
			t.Errorf("Quick(%d, %x) is %x beside false", a.fn, a.b, got)
		case !ok && (a.clear || a.certain()):
			t.Errorf("Quick(%d, %x) is false, but must be true", a.fn, a.b)
		case ok:
			sure++
		default:
			unsure[a.fn]++
		}
	}
	// Where floats can't tell it, the fast road must ask the slow one: that is tried only if there are such numbers.
	for _, fn := range radians {
		if unsure[fn] < 100 {
			t.Errorf("Quick is unsure of function %d only %d times", fn, unsure[fn])
		}
	}
	if sure < 10000 {
		t.Errorf("Quick is sure only %d times", sure)
	}
}

// Where Quick is true, its pattern is the slow road's.
func TestP26_7_SlowRoad(t *testing.T) {
	t.Parallel()
	slow := made(t, trig.Slow)
	list := append(anyPatterns(), oracle.Words(3000)...)
	inParts(len(list), func(i int) {
		for _, fn := range radians {
			got, ok, e := trig.Quick(fn, list[i])
			if want, sure := called(slow, fn, list[i]); e != api.OK || ok && (got != want || !sure) {
				t.Errorf("Quick(%d, %x) is %x, %v, error %d; the slow road says %x, %v", fn, list[i], got, ok, e, want, sure)
			}
		}
	})
}

// The numbers below which x itself, or 1, is the answer, and those from there on.
func TestP26_7_Tiny(t *testing.T) {
	for _, x := range tiny() {
		b, size := bitsOf(x), math.Abs(x)
		for _, c := range []struct {
			fn   api.Fn
			end  float64
			want uint64
		}{{api.Sin, 0x1p-26, b}, {api.Cos, 0x1p-27, one}, {api.Tan, 0x1p-27, b}} {
			if got, ok, e := trig.Quick(c.fn, b); size < c.end && (got != c.want || !ok || e != api.OK) {
				t.Errorf("Quick(%d, %x) is %x, %v, error %d", c.fn, b, got, ok, e)
			}
		}
	}
}

// A tangent within 2^-128 of a midpoint is none for floats, but one for both roads.
func TestP26_8_Nearest(t *testing.T) {
	for _, x := range []float64{0x1.dffffffffff1fp-22, -0x1.dffffffffff1fp-22} {
		if got, ok, e := trig.Quick(api.Tan, bitsOf(x)); got != 0 || ok || e != api.OK {
			t.Errorf("Quick(Tan, %x) is %x, %v, error %d", x, got, ok, e)
		}
		want, _ := oracle.Around(200).Radians(bitsOf(x)).Of(api.Tan).Rounded(api.Double)
		for _, m := range modes {
			if got, ok := made(t, m).Tan(bitsOf(x)); got != want || !ok {
				t.Errorf("road %d: the tangent of %x is %x, %v", m, x, got, ok)
			}
		}
	}
}

func TestP26_7_Examples(t *testing.T) {
	if got, ok, e := trig.Quick(api.SinPi, 0); got != 0 || ok || e != api.ErrArg {
		t.Errorf("Quick(SinPi, 0) is %x, %v, error %d", got, ok, e)
	}
	for i, want := range []uint64{0x3feaed548f090cee, 0x3fe14a280fb5068c, 0x3ff8eb245cbee3a6} {
		if got, ok, e := trig.Quick(radians[i], one); got != want || !ok || e != api.OK {
			t.Errorf("Quick(%d, 1) is %x, %v, error %d", radians[i], got, ok, e)
		}
	}
}
