package refval

import (
	"math"
	"testing"

	"gnomon/api"
	"gnomon/nearpi"
	"gnomon/oracle"
	"gnomon/quadrant"
)

// Above 1/2 no binary64 number has a smaller remainder than is said, and one has hardly a greater one.
func TestNearestIsTheNearest(t *testing.T) {
	deepest := 0
	for exp := -53; exp <= 971; exp++ {
		a, _ := nearpi.Nearest(53, exp)
		deepest = max(deepest, a.Depth)
	}
	if deepest != nearest {
		t.Errorf("the nearest number lies between 2^-%d and twice that", deepest)
	}
}

// The smallest remainders too are as thin as the step from them to the functions needs them.
func TestRemaindersAreThin(t *testing.T) {
	for exp := -53; exp <= 971; exp++ {
		a, _ := nearpi.Nearest(53, exp)
		b := math.Float64bits(math.Ldexp(float64(a.Man), exp))
		for _, p := range []int{1, 2, 3, 70} {
			if _, rest, e := remainder(b, p); e != api.OK || !oracle.Thin(rest, p+quadrant.Spare) {
				t.Errorf("the remainder of %x at %d bits is %s, error %d", b, p, oracle.TellSpan(rest), e)
			}
		}
	}
}
