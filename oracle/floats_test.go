package oracle

import (
	"math"
	"testing"

	"gnomon/api"
)

// The library's fractions round to the same floats.
func TestNearestAgreesWithFractions(t *testing.T) {
	least := Exact(math.SmallestNonzeroFloat64)
	for _, b := range Finite(api.Double) {
		x := Float(api.Double, b)
		for _, y := range []float64{0, x, math.Ldexp(x, -53), -math.Ldexp(x, -54), 1} {
			for _, hair := range []float64{x, y} {
				exact := Plus(Plus(Exact(x), Exact(y)), Product(least, Exact(hair)))
				fraction, _ := exact.Rat(nil)
				if want := math.Float64frombits(Rounded(api.Double, fraction)); Nearest(exact) != want {
					t.Errorf("%x + %x rounds to %x, not to %x", x, y, want, Nearest(exact))
				}
			}
		}
	}
}

func TestWithin(t *testing.T) {
	for _, c := range []struct {
		x, y float64
		e    int // the last e with x within 2^-e of y
	}{
		{1.5, 1, 1}, {1, 1.5, 1}, {15, 16, 4}, {16, 15, 3}, {-16, -15, 3}, {1, -1, -1}, {1 + 0x1p-52, 1, 52}, {1, 1 + 0x1p-52, 52}, {1, 1 - 0x1p-53, 52},
	} {
		for e := -3; e < 60; e++ {
			if Within(Exact(c.x), Exact(c.y), e) != (e <= c.e) {
				t.Errorf("%x is within 2^-%d of %x: %v", c.x, e, c.y, e > c.e)
			}
		}
	}
	if nought := Exact(0); !Within(nought, nought, 100) || Within(Exact(math.SmallestNonzeroFloat64), nought, 0) {
		t.Errorf("nought alone is near to nought")
	}
}

func TestInForm(t *testing.T) {
	const u = 0x1p-53
	for _, c := range []struct {
		hi, lo float64
		form   bool
	}{{1, u, true}, {1, -u, false}, {1, 1.5 * u, false}, {0, 1, false}, {0, 0, true}, {math.Inf(1), 0, false}, {1, math.NaN(), false}, {math.MaxFloat64, 0x1p970, false}} {
		if InForm(api.DD{Hi: c.hi, Lo: c.lo}) != c.form {
			t.Errorf("{%x, %x} is in form: %v", c.hi, c.lo, !c.form)
		}
	}
}

func TestFloatsWithoutARule(t *testing.T) {
	least, greatest := math.MaxFloat64, 0.0
	signs := map[bool]int{}
	for _, w := range Words(5000) {
		x := FloatOf(w, -7, 9)
		signs[x < 0]++
		least, greatest = min(least, math.Abs(x)), max(greatest, math.Abs(x))
	}
	if least < 0x1p-7 || least >= 0x1p-6 || greatest < 0x1p8 || greatest >= 0x1p9 || signs[true] < 2000 || signs[false] < 2000 {
		t.Errorf("sizes from %x to %x, %d of them below nought", least, greatest, signs[true])
	}
}
