package payne_test

import (
	"math"
	"testing"

	"gnomon/angles"
	"gnomon/api"
	"gnomon/dd"
	"gnomon/dyadic"
	"gnomon/oracle"
	"gnomon/payne"
	"gnomon/piconst"
	"gnomon/refreduce"
	"gnomon/span"
)

func TestP21_3_Examples(t *testing.T) {
	quarter := oracle.NewQuarter()
	for _, c := range []struct {
		x    float64
		k    int
		near float64
	}{
		{0.5, 0, 0.5}, {-0.5, 0, -0.5}, {4, 3, -0.7123889803846899}, {-4, 1, 0.7123889803846899}, {0.8, 1, -0.7707963267948966}, {-0.8, 3, 0.7707963267948966}, {0.75, 0, 0.75}, {1, 1, -0.5707963267948966}, {-1, 3, 0.5707963267948966}, {3, 2, -0.14159265358979312}, {1e22, 3, 0.5506189342358097}, {-1e22, 1, -0.5506189342358097},
	} {
		k, v, e := payne.Reduce(c.x)
		if e != api.OK || k != c.k || math.Abs(v.Hi-c.near) > 0x1p-50 || !quarter.Good(c.x, k, v) {
			t.Errorf("Reduce(%v) is %d, %x, error %d", c.x, k, v, e)
		}
	}
	for _, x := range []float64{0.79, -0.79} {
		if k, v, e := payne.Reduce(x); e != api.OK || !quarter.Good(x, k, v) {
			t.Errorf("Reduce(%v) is %d, %x, error %d", x, k, v, e)
		}
	}
}

func TestP21_3_AllSizes(t *testing.T) {
	t.Parallel()
	quarter := oracle.NewQuarter()
	for _, x := range angles.All() {
		if k, v, e := payne.Reduce(x); e != api.OK || !quarter.Good(x, k, v) {
			t.Errorf("Reduce(%x) is %d, %x, error %d", x, k, v, e)
		}
	}
}

// slow: the remainder's quadrant and span by layer 14, told of the multiple with the quadrant k.
func slow(x float64, k int) (api.Span, bool) {
	q, s, _ := refreduce.Reduce(math.Float64bits(x), 300)
	pi, _ := piconst.Pi(400)
	half, _ := span.Scale(pi, -1)
	switch (k - q) & 3 {
	case 1:
		s, _ = span.Sub(s, half, 500)
	case 2:
		return s, false
	case 3:
		s, _ = span.Add(s, half, 500)
	}
	return s, true
}

// goodBySlow: is each number of the slow road's span within 2^-80 relative of v, or so near to it as to make no difference?
func goodBySlow(x float64, k int, v api.DD) bool {
	s, ok := slow(x, k)
	number, e := dd.Value(v)
	if !ok || e != api.OK {
		return false
	}
	for _, end := range []api.Dyadic{s.Lo, s.Hi} {
		off, _ := dyadic.Sub(number, end)
		allowed, _ := dyadic.Scale(end, -80)
		off.Man.Neg, allowed.Man.Neg = false, false
		if order, _ := dyadic.Cmp(off, allowed); order > 0 {
			return false
		}
	}
	return true
}

func TestP21_3_AsTheSlowRoad(t *testing.T) {
	t.Parallel()
	for i, x := range angles.All() {
		if i%5 != 0 {
			continue
		}
		if k, v, e := payne.Reduce(x); e != api.OK || !goodBySlow(x, k, v) {
			t.Errorf("Reduce(%x) is %d, %x, error %d", x, k, v, e)
		}
	}
}

// A remainder of the other sign, quadrant or size is not taken for good by either way of telling it.
func TestOtherRemaindersAreNotGood(t *testing.T) {
	quarter := oracle.NewQuarter()
	for _, x := range []float64{1, -3, 1e22, math.MaxFloat64, math.Ldexp(6381956970095103, 797)} {
		k, v, _ := payne.Reduce(x)
		for i, c := range []struct {
			k int
			v api.DD
		}{
			{k ^ 1, v}, {k ^ 2, v}, {k, dd.Neg(v)}, {k, api.DD{Hi: v.Hi, Lo: v.Lo + float64(0x1.8p-80*v.Hi)}}, {k, api.DD{Hi: v.Hi, Lo: v.Lo - float64(0x1.8p-80*v.Hi)}}, {k, api.DD{}},
		} {
			if quarter.Good(x, c.k, c.v) || goodBySlow(x, c.k, c.v) {
				t.Errorf("number %d of those beside the remainder of %x is good", i, x)
			}
		}
	}
}

// The numbers that come nearest to a multiple of pi/2, at each exponent.
func TestP21_4_NeverNearer(t *testing.T) {
	quarter := oracle.NewQuarter()
	for _, size := range angles.Nearest() {
		for _, x := range []float64{size, -size} {
			if size < 0x1p-27 {
				continue
			}
			k, v, e := payne.Reduce(x)
			if e != api.OK || !quarter.Good(x, k, v) || math.Abs(v.Hi) <= 0x1p-62 {
				t.Errorf("Reduce(%x) is %d, %x, error %d", x, k, v, e)
			}
		}
	}
}

func TestP21_4_TheNearest(t *testing.T) {
	quarter := oracle.NewQuarter()
	x := math.Ldexp(6381956970095103, 797)
	for _, x := range []float64{x, -x} {
		k, v, e := payne.Reduce(x)
		if size := math.Abs(v.Hi); e != api.OK || size < 0x1p-61 || size > 0x1p-60 || !quarter.Good(x, k, v) || k&1 == 0 {
			t.Errorf("Reduce(%x) is %d, %x, error %d", x, k, v, e)
		}
	}
}

// fails looks whether there is nothing beside an error: the noughts of the double-double are without a sign.
func fails(t *testing.T, x float64, want api.Errno) {
	t.Helper()
	k, v, e := payne.Reduce(x)
	if e != want || k != 0 || math.Float64bits(v.Hi) != 0 || math.Float64bits(v.Lo) != 0 {
		t.Errorf("Reduce(%x) is %d, %x, error %d; want error %d", x, k, v, e, want)
	}
}

func TestErrors21(t *testing.T) {
	for _, size := range []float64{0, math.SmallestNonzeroFloat64, 0x1p-1022, 0x1p-300, 0x1p-53, 0x1p-28, math.Nextafter(0x1p-27, 0)} {
		fails(t, size, api.ErrLimit)
		fails(t, math.Copysign(size, -1), api.ErrLimit)
	}
	for _, b := range append(oracle.NaNs(api.Double), oracle.Infinity(api.Double), oracle.Minus(api.Double, oracle.Infinity(api.Double))) {
		fails(t, math.Float64frombits(b), api.ErrClass)
	}
	for _, b := range oracle.Finite(api.Double) {
		x := math.Float64frombits(b)
		if math.Abs(x) < 0x1p-27 {
			fails(t, x, api.ErrLimit)
		} else if _, _, e := payne.Reduce(x); e != api.OK {
			t.Errorf("Reduce(%x): error %d", x, e)
		}
	}
}
