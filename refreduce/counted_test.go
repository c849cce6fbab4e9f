package refreduce

import (
	"math"
	"testing"

	"gnomon/api"
	"gnomon/binary"
	"gnomon/nearpi"
	"gnomon/num"
)

// With few bits of pi the multiple is not certain at first: more of them are taken until it is.
func TestNearestTakesMoreBits(t *testing.T) {
	unsure := 0
	for exp := 20; exp <= 971; exp += 7 {
		a, _ := nearpi.Nearest(53, exp)
		for _, x := range []float64{math.Ldexp(float64(a.Man), exp), -math.Ldexp(float64(a.Man), exp-1)} {
			d, _ := binary.Value(api.Double, math.Float64bits(x))
			want := nearest(d, 300)
			for _, bits := range []int{1, 2, 5, 30, spare} {
				if order, _ := num.Cmp(nearest(d, bits), want); order != 0 {
					t.Errorf("%v: another multiple from %d bits on", x, bits)
				}
			}
			c := count(d, 5)
			if k, _ := num.NearDiv(c.x, c.half); !equal(k, want) {
				unsure++
			}
		}
	}
	if unsure == 0 {
		t.Errorf("5 bits were enough for all of them")
	}
}

func equal(a, b api.Int) bool {
	order, _ := num.Cmp(a, b)
	return order == 0
}
