package angles

import (
	"math"
	"slices"
	"testing"

	"gnomon/oracle"
)

// The tests of the reductions are worth what their numbers are.
func TestAllHasWhatIsNamed(t *testing.T) {
	all := All()
	for _, x := range all {
		if !oracle.IsFinite(x) || math.Abs(x) < least {
			t.Errorf("%x is among them", x)
		}
	}
	slices.Sort(all)
	for _, size := range []float64{least, math.Nextafter(least, 1), math.Pi / 4, math.Nextafter(math.Pi/4, 1), 3 * math.Pi / 4, math.Pi / 2, math.Pi, 2 * math.Pi, math.Nextafter(moderate, 0), moderate, math.MaxFloat64, math.Ldexp(6381956970095103, 797), 0x1.6ac5b262ca1ffp+849} {
		for _, x := range []float64{size, -size} {
			if _, found := slices.BinarySearch(all, x); !found {
				t.Errorf("%x is not among them", x)
			}
		}
	}
	exponents := map[int]int{}
	for _, x := range all {
		exponents[math.Ilogb(x)]++
	}
	for exp := -27; exp < 1024; exp++ {
		if exponents[exp] < 10 {
			t.Errorf("%d numbers from 2^%d on", exponents[exp], exp)
		}
	}
}

func TestEighthsGoUpToTheModerate(t *testing.T) {
	quarter := oracle.NewQuarter()
	list := eighths()
	if last := slices.Max(list); quarter.Eighths(last) >= moderate || quarter.Eighths(last+1) < moderate {
		t.Errorf("the last one is %d", last)
	}
	if slices.Min(list) != 1 {
		t.Errorf("the first one is not 1")
	}
}
