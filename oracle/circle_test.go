package oracle

import (
	"math"
	"math/big"
	"testing"

	"gnomon/api"
)

// float: the number that is told, rounded.
func (v Real) float() float64 {
	x, _ := new(big.Rat).Mul(new(big.Rat).SetInt(v.High), power(v.Exp)).Float64()
	return x * float64(v.Sign)
}

// The library's own floats tell all but some last bits of the same numbers.
func TestCircleAgreesWithFloats(t *testing.T) {
	c := Around(200)
	for _, x := range []float64{0, 1e-300, 0.1, 0.75, 0.7500000000000001, 0.8, 1, 1.5, 2, 3, 4, 5, 6, 7, 100, 1e6, 1e22, 3e100, math.MaxFloat64} {
		for _, x := range []float64{x, -x} {
			v := c.Radians(math.Float64bits(x))
			for i, want := range []float64{math.Sin(x), math.Cos(x), math.Tan(x)} {
				if got := v[i].float(); math.Abs(got-want) > 1e-14*math.Abs(want) {
					t.Errorf("function %d of %v: %v and not %v", i+1, x, want, got)
				}
			}
		}
	}
}

// sin(pi/4) = cos(pi/4) is the root of 1/2, tan(pi/8) the root of 2 less 1; and what the floats tell of numbers that are not great.
func TestCircleTurns(t *testing.T) {
	c := Around(200)
	for _, x := range []float64{0, 0x1p-1074, 1e-300, 0.1, 0.125, 0.25, 0.3, 0.6, 0.9, 1, 1.1, 1.9, 2.3} {
		for _, x := range []float64{x, -x} {
			v := c.Turns(math.Float64bits(x))
			for i, want := range []float64{math.Sin(math.Pi * x), math.Cos(math.Pi * x), math.Tan(math.Pi * x)} {
				if got := v[i].float(); math.Abs(got-want) > 1e-14 {
					t.Errorf("function %d of pi * %v: %v and not %v", i+4, x, want, got)
				}
			}
		}
	}
	eighth := c.Turns(math.Float64bits(0.125)).Of(api.TanPi)
	root := new(big.Float).SetPrec(300).SetInt64(2)
	root.Sqrt(root).Sub(root, big.NewFloat(1))
	exact, _ := root.Rat(nil)
	low := new(big.Rat).Mul(new(big.Rat).SetInt(eighth.Low), power(eighth.Exp))
	high := new(big.Rat).Mul(new(big.Rat).SetInt(eighth.High), power(eighth.Exp))
	if low.Cmp(exact) > 0 || high.Cmp(exact) < 0 || new(big.Rat).Sub(high, low).Cmp(power(-190)) > 0 {
		t.Errorf("tan(pi/8) lies from %s to %s", low.FloatString(70), high.FloatString(70))
	}
}
