package refreduce

import (
	"math"
	"math/big"
	"slices"
	"testing"

	"gnomon/api"
	"gnomon/binary"
	"gnomon/nearpi"
	"gnomon/num"
	"gnomon/oracle"
)

// With few bits of pi the multiple is not certain at first: more of them are taken until it is.
func TestNearestTakesMoreBits(t *testing.T) {
	unsure := 0
	for exp := 20; exp <= 971; exp += 7 {
		a, _ := nearpi.Nearest(53, exp)
		for _, x := range []float64{math.Ldexp(float64(a.Man), exp), -math.Ldexp(float64(a.Man), exp-1)} {
			d, _ := binary.Value(api.Double, math.Float64bits(x))
			want := nearest(d, 300)
			for _, bits := range []int{1, 2, 5, 30, spare} {
				if order, _ := num.Cmp(nearest(d, bits), want); order != 0 {
					t.Errorf("%v: another multiple from %d bits on", x, bits)
				}
			}
			c := count(d, 5)
			if k, _ := num.NearDiv(c.x, c.half); !equal(k, want) {
				unsure++
			}
		}
	}
	if unsure == 0 {
		t.Errorf("5 bits were enough for all of them")
	}
}

// The bounds of what is left are k units apart, far less than a step of the grid to which Reduce rounds them: so here it is they that are looked at.
func TestBoundsOfWhatIsLeft(t *testing.T) {
	const finer = 80
	for _, x := range []float64{0.8, 1, 2, 3, 100, 1e6, 1e22, 3e100, math.MaxFloat64} {
		for _, b := range []uint64{math.Float64bits(x), math.Float64bits(-x)} {
			d, _ := binary.Value(api.Double, b)
			for bits := spare; bits < 300; bits += 59 {
				c := count(d, bits)
				k, _ := num.NearDiv(c.x, c.half)
				low, high := c.left(k)
				// x - k*pi/2, counted in units that are finer yet
				half := oracle.Pi(c.places - 1 + finer)
				left := new(big.Int).Lsh(oracle.Whole(c.x), finer)
				left.Sub(left, half.Mul(half, oracle.Whole(k)))
				if oracle.Order(oracle.Whole(low), finer, left, 0) > 0 || oracle.Order(oracle.Whole(high), finer, left, 0) < 0 {
					t.Errorf("what is left of %v at %d bits does not lie between %v and %v", math.Float64frombits(b), bits, low, high)
				}
				if width, _ := num.Sub(high, low); !slices.Equal(width.Mag, k.Mag) {
					t.Errorf("the bounds of what is left of %v at %d bits are %v apart", x, bits, width)
				}
			}
		}
	}
}

func equal(a, b api.Int) bool {
	order, _ := num.Cmp(a, b)
	return order == 0
}
