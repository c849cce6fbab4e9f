package ziv_test

import (
	"math"
	"testing"

	"gnomon/api"
	"gnomon/oracle"
	"gnomon/ziv"
)

// valued looks whether Value answers the right pattern, as the ladder from Start to Cap does.
func (a asked) valued(t *testing.T) {
	t.Helper()
	got, ok, e := ziv.Value(a.f, a.fn, a.b)
	if got != a.want || !ok || e != api.OK {
		t.Errorf("Value(%d, %d, %x) is %x, %v, error %d; want %x", a.f, a.fn, a.b, got, ok, e, a.want)
	}
	if c, e := ziv.Climb(a.f, a.fn, a.b, 128, 65536); c.Bits != got || c.OK != ok || e != api.OK {
		t.Errorf("Value(%d, %d, %x) is %x, %v, but the ladder says %v, error %d", a.f, a.fn, a.b, got, ok, c, e)
	}
}

// As no value comes nearer to a midpoint than 2^-128 of itself here, each is certain.
func TestP18_5_Value(t *testing.T) {
	for _, f := range oracle.Formats() {
		t.Run(map[api.Format]string{api.Single: "single", api.Double: "double"}[f], func(t *testing.T) {
			t.Parallel()
			for _, a := range questions[f]() {
				a.valued(t)
			}
		})
	}
}

// allSizes: patterns of Single of every exponent and both signs.
func allSizes() []uint64 {
	var out []uint64
	for exponent := range uint64(255) {
		for _, mantissa := range []uint64{1, 0x2aaaaa, 0x555555, 0x7fffff, exponent * 0x9e3779b97f4a7c15 >> 41} {
			out = append(out, exponent<<23|mantissa)
		}
	}
	return both(api.Single, out)
}

func TestP18_5_AllSizesOfSingle(t *testing.T) {
	t.Parallel()
	for _, a := range askAll(api.Single, allSizes()) {
		a.valued(t)
	}
}

func TestP18_5_Examples(t *testing.T) {
	const one, least = 0x3ff0000000000000, 1
	for _, c := range []struct {
		f       api.Format
		fn      api.Fn
		b, want uint64
	}{
		{api.Double, api.Sin, one, 0x3feaed548f090cee}, {api.Double, api.Cos, one, 0x3fe14a280fb5068c}, {api.Double, api.Tan, one, 0x3ff8eb245cbee3a6},
		{api.Double, api.Sin, 1 << 63, 1 << 63}, {api.Double, api.Cos, 1 << 63, one}, {api.Double, api.Tan, 0xfff0000000000000, 0x7ff8000000000001},
		{api.Double, api.Sin, least, 1}, {api.Double, api.Tan, least, 1}, {api.Double, api.SinPi, least, 3}, {api.Double, api.TanPi, least, 3}, {api.Double, api.Cos, least, one}, {api.Double, api.CosPi, least, one},
		{api.Double, api.SinPi, bitsOf(0.5), one}, {api.Double, api.TanPi, bitsOf(0.5), 0x7ff0000000000000}, {api.Double, api.CosPi, bitsOf(0.5), 0},
		{api.Double, api.Sin, bitsOf(1e22), 0xbfeb453ab76bf397}, {api.Double, api.TanPi, bitsOf(0.75), 0xbff0000000000000}, {api.Double, api.Tan, bitsOf(0x1p-27), bitsOf(0x1p-27)}, {api.Double, api.Cos, bitsOf(0x1p-27), one},
		{api.Single, api.Sin, 0x3f800000, 0x3f576aa4}, {api.Single, api.Sin, 1, 1}, {api.Single, api.SinPi, 1, 3},
	} {
		if got, ok, e := ziv.Value(c.f, c.fn, c.b); got != c.want || !ok || e != api.OK {
			t.Errorf("Value(%d, %d, %x) is %x, %v, error %d; want %x", c.f, c.fn, c.b, got, ok, e, c.want)
		}
	}
}

// The sines of numbers up to 1.5 * 2^-26 are these or their lower neighbours, the tangents these or their upper ones; the cosines of numbers up to 2^-26 are 1 or its lower neighbour, and up to 2^-27 they are 1.
func TestP18_5_Tiny(t *testing.T) {
	for _, c := range []struct {
		fn         api.Fn
		self       float64 // what the value is up to there
		two        float64 // what it is or stands beside up to there
		near, next func(b uint64) uint64
	}{
		{api.Sin, 0x1p-26, 0x1.8p-26, func(b uint64) uint64 { return b }, func(b uint64) uint64 { return b - 1 }},
		{api.Tan, 0x1p-27, 0x1.8p-26, func(b uint64) uint64 { return b }, func(b uint64) uint64 { return b + 1 }},
		{api.Cos, 0x1p-27, 0x1p-26, func(uint64) uint64 { return bitsOf(1) }, func(uint64) uint64 { return bitsOf(1) - 1 }},
	} {
		turned := 0
		for _, b := range append(crossings(api.Double), bitsOf(0x1p-27), bitsOf(0x1p-26), bitsOf(0x1p-30), bitsOf(1e-300), 1) {
			x := math.Float64frombits(b)
			if x > c.two {
				continue
			}
			got, ok, e := ziv.Value(api.Double, c.fn, b)
			if got == c.next(b) && x > c.self {
				turned++
			} else if got != c.near(b) || !ok || e != api.OK {
				t.Errorf("Value(Double, %d, %x) is %x, %v, error %d", c.fn, b, got, ok, e)
			}
		}
		if turned == 0 {
			t.Errorf("of function %d no number has been tried whose value is the neighbour", c.fn)
		}
	}
}

// mirrored looks whether the function of -x is that of x, with the sign that it must have.
func mirrored(t *testing.T, f api.Format, fn api.Fn, b uint64) {
	t.Helper()
	plus, sure, _ := ziv.Value(f, fn, b)
	minus, ok, _ := ziv.Value(f, fn, oracle.Minus(f, b))
	if !sure || !ok {
		return
	}
	if fn != api.Cos && fn != api.CosPi {
		minus = oracle.Minus(f, minus)
	}
	if plus != minus {
		t.Errorf("Value(%d, %d, %x) is %x; of the other sign it is %x", f, fn, b, plus, minus)
	}
	size := min(plus, oracle.Minus(f, plus))
	if size == 0 || size >= oracle.Infinity(f) || fn != api.Tan && fn != api.TanPi && size > oracle.Bits(f, 1) {
		t.Errorf("Value(%d, %d, %x) is %x", f, fn, b, plus)
	}
}

func TestP18_7_Mirrors(t *testing.T) {
	for _, f := range oracle.Formats() {
		for _, a := range questions[f]() {
			mirrored(t, f, a.fn, a.b)
		}
	}
}
