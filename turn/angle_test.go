package turn

import (
	"math/big"
	"testing"

	"gnomon/api"
	"gnomon/oracle"
	"gnomon/quadrant"
)

// The angle is as thin as the step from it to the functions needs it, and holds pi*r.
func TestAnglesAreThin(t *testing.T) {
	for _, r := range []api.Dyadic{oracle.Fields(-1, -2), oracle.Fields(1<<53-1, -55), oracle.Fields(3, -4), oracle.Fields(-5, -30), oracle.Fields(1, -1074), oracle.Fields(-1, -1074)} {
		for p := 1; p < 300; p++ {
			s := angle(r, p)
			if !oracle.Thin(s, p+quadrant.Spare) {
				t.Errorf("pi * %s at %d bits is %s", oracle.Tell(r), p, oracle.TellSpan(s))
			}
			size := new(big.Int).Abs(oracle.Whole(r.Man))
			low := oracle.Pi(p + 100)
			high := new(big.Int).Add(low, big.NewInt(1))
			value := oracle.Real{Sign: oracle.Whole(r.Man).Sign(), Low: low.Mul(low, size), High: high.Mul(high, size), Exp: r.Exp - p - 100}
			if !value.Holds(s) {
				t.Errorf("pi * %s at %d bits does not lie in %s", oracle.Tell(r), p, oracle.TellSpan(s))
			}
		}
	}
}
