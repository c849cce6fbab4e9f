package fastreduce_test

import (
	"math"
	"math/big"
	"testing"

	"gnomon/angles"
	"gnomon/api"
	"gnomon/fastreduce"
	"gnomon/oracle"
)

// must: does P22.2 ask for true at a finite x?
func must(quarter oracle.Quarter, x float64) bool {
	size := math.Abs(x)
	if size < 0x1p-27 || size >= 0x1p20 {
		return false
	}
	_, least := quarter.Remainder(x, new(big.Float))
	return least.Abs(least).Cmp(big.NewFloat(0x1p-12)) >= 0
}

// nothing: is there nothing beside a false or an error? The noughts of the double-double are without a sign.
func nothing(q int, v api.DD) bool {
	return q == 0 && math.Float64bits(v.Hi) == 0 && math.Float64bits(v.Lo) == 0
}

// codyHolds looks at one finite number, and tells what was answered.
func codyHolds(t *testing.T, quarter oracle.Quarter, x float64) bool {
	t.Helper()
	q, v, ok := fastreduce.Cody(x)
	size := math.Abs(x)
	switch {
	case ok && (size < 0x1p-27 || size >= 0x1p20):
		t.Errorf("Cody(%x) is %d, %x, true", x, q, v)
	case ok && !quarter.Good(x, q, v):
		t.Errorf("Cody(%x) is %d, %x: no good remainder", x, q, v)
	case !ok && !nothing(q, v):
		t.Errorf("Cody(%x) is %d, %x beside false", x, q, v)
	case !ok && must(quarter, x):
		t.Errorf("Cody(%x) is false", x)
	}
	return ok
}

func TestP22_2_Examples(t *testing.T) {
	for _, c := range []struct {
		x    float64
		q    int
		near float64
	}{
		{1, 1, -0.5707963267948966}, {-1, 3, 0.5707963267948966}, {3, 2, -0.14159265358979312}, {-3, 2, 0.14159265358979312}, {4, 3, -0.7123889803846899}, {-4, 1, 0.7123889803846899}, {0.75, 0, 0.75}, {0x1p-12, 0, 0x1p-12}, {-0x1p-12, 0, -0x1p-12},
	} {
		if q, v, ok := fastreduce.Cody(c.x); !ok || q != c.q || math.Abs(v.Hi-c.near) > 0x1p-50 {
			t.Errorf("Cody(%v) is %d, %x, %v", c.x, q, v, ok)
		}
	}
}

func TestP22_2_AllSizes(t *testing.T) {
	t.Parallel()
	quarter := oracle.NewQuarter()
	counted := map[bool]int{}
	for _, x := range angles.All() {
		counted[codyHolds(t, quarter, x)]++
	}
	if counted[true] < 1000 || counted[false] < 1000 {
		t.Errorf("true and false are not both tried: %v", counted)
	}
}

// Numbers up to 2^20, with the greatest multiples, whose parts lose most.
func TestP22_2_GreatMultiples(t *testing.T) {
	t.Parallel()
	quarter := oracle.NewQuarter()
	for i, w := range oracle.Words(12000) {
		x := 0x1p19 + float64(w>>11)*0x1p-34
		if i%2 == 0 { // beside a multiple of pi/2, as near as 2^-15
			x = quarter.Eighths(2*int(w%667544)) + oracle.FloatOf(w, -15, -1)
		}
		codyHolds(t, quarter, x)
		codyHolds(t, quarter, -x)
	}
}

func TestP22_2_MustBeFalse(t *testing.T) {
	sizes := []float64{0, math.SmallestNonzeroFloat64, 0x1p-1022, 0x1p-300, 0x1p-28, math.Nextafter(0x1p-27, 0), 0x1p20, math.Nextafter(0x1p20, 0x1p21), 0x1p21, 0x1p31, 0x1p32, 0x1p63, 0x1p64, 1e22, 1e300, math.MaxFloat64}
	for _, x := range append(sizes, oracle.EndlessFloats()...) {
		for _, x := range []float64{x, -x} {
			if q, v, ok := fastreduce.Cody(x); ok || !nothing(q, v) {
				t.Errorf("Cody(%x) is %d, %x, %v", x, q, v, ok)
			}
		}
	}
	for _, b := range oracle.NaNs(api.Double) {
		if q, v, ok := fastreduce.Cody(math.Float64frombits(b)); ok || !nothing(q, v) {
			t.Errorf("Cody of the NaN %x is %d, %x, %v", b, q, v, ok)
		}
	}
}

func TestP22_2_EndsOfTheRange(t *testing.T) {
	quarter := oracle.NewQuarter()
	for _, x := range []float64{0x1p-27, math.Nextafter(0x1p-27, 1), 0x1p-13, math.Nextafter(0x1p-12, 0), 0x1p-12, 51.0 / 64, math.Nextafter(51.0/64, 1), math.Nextafter(0x1p20, 0), 0x1p20 - 0.5} {
		codyHolds(t, quarter, x)
		codyHolds(t, quarter, -x)
	}
	if !must(quarter, 0x1p-12) || must(quarter, math.Nextafter(0x1p-12, 0)) || !must(quarter, math.Nextafter(0x1p20, 0)) || must(quarter, 0x1p20) || must(quarter, math.Pi) {
		t.Errorf("it is not told where true is asked for")
	}
}

// The numbers that lie just 2^-12 off a multiple, or hardly more, are the last ones at which true is asked for.
func TestP22_2_AtTheLeastDistance(t *testing.T) {
	t.Parallel()
	quarter := oracle.NewQuarter()
	asked := 0
	for k := 1; k < 667543; k += 1 + k/20 {
		for _, x := range []float64{quarter.Eighths(2*k) + 0x1p-12, quarter.Eighths(2*k) - 0x1p-12} {
			b := math.Float64bits(x)
			for c := b - 3; c <= b+3; c++ {
				y := math.Float64frombits(c)
				if must(quarter, y) {
					asked++
				}
				codyHolds(t, quarter, y)
			}
		}
	}
	if asked == 0 {
		t.Errorf("true is asked for at none of them")
	}
}
