package fastreduce_test

import (
	"math"
	"testing"

	"gnomon/angles"
	"gnomon/api"
	"gnomon/fastreduce"
	"gnomon/oracle"
)

func reduces(t *testing.T, quarter oracle.Quarter, x float64) {
	t.Helper()
	if q, v, e := fastreduce.Reduce(x); e != api.OK || !quarter.Good(x, q, v) {
		t.Errorf("Reduce(%x) is %d, %x, error %d", x, q, v, e)
	}
}

func TestP22_3_Examples(t *testing.T) {
	quarter := oracle.NewQuarter()
	for _, c := range []struct {
		x    float64
		q    int
		near float64
	}{
		{1, 1, -0.5707963267948966}, {0.75, 0, 0.75}, {3, 2, -0.14159265358979312}, {-3, 2, 0.14159265358979312}, {4, 3, -0.7123889803846899}, {0x1p-27, 0, 0x1p-27}, {-0x1p-27, 0, -0x1p-27}, {1e22, 3, 0.5506189342358097},
	} {
		q, v, e := fastreduce.Reduce(c.x)
		if e != api.OK || q != c.q || math.Abs(v.Hi-c.near) > 0x1p-50*math.Abs(c.near) {
			t.Errorf("Reduce(%v) is %d, %x, error %d", c.x, q, v, e)
		}
		reduces(t, quarter, c.x)
	}
	reduces(t, quarter, 0.79)
	reduces(t, quarter, -0.79)
}

// The binary64 number nearest to a multiple of pi/2.
func TestP22_3_TheNearest(t *testing.T) {
	quarter := oracle.NewQuarter()
	for _, x := range []float64{0x1.6ac5b262ca1ffp+849, -0x1.6ac5b262ca1ffp+849} {
		if _, v, e := fastreduce.Reduce(x); e != api.OK || math.Abs(v.Hi) < 0x1p-61 || math.Abs(v.Hi) > 0x1p-60 {
			t.Errorf("Reduce(%x) is %x, error %d", x, v, e)
		}
		reduces(t, quarter, x)
	}
}

func TestP22_3_AllSizes(t *testing.T) {
	t.Parallel()
	quarter := oracle.NewQuarter()
	for _, x := range angles.All() {
		reduces(t, quarter, x)
	}
}

func TestErrors22(t *testing.T) {
	fails := func(x float64, want api.Errno) {
		t.Helper()
		if q, v, e := fastreduce.Reduce(x); e != want || !nothing(q, v) {
			t.Errorf("Reduce(%x) is %d, %x, error %d; want error %d", x, q, v, e, want)
		}
	}
	for _, size := range []float64{0, math.SmallestNonzeroFloat64, 0x1p-1022, 0x1p-300, 0x1p-53, 0x1p-28, math.Nextafter(0x1p-27, 0)} {
		fails(size, api.ErrLimit)
		fails(math.Copysign(size, -1), api.ErrLimit)
	}
	for _, b := range append(oracle.NaNs(api.Double), oracle.Infinity(api.Double), oracle.Minus(api.Double, oracle.Infinity(api.Double))) {
		fails(math.Float64frombits(b), api.ErrClass)
	}
}
