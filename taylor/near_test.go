package taylor

import (
	"math/big"
	"testing"

	"gnomon/api"
	"gnomon/dyadic"
	"gnomon/oracle"
)

// finer is how many bits more than a number here has its value is told with.
const finer = 60

// isNear: is a no farther off than it says from what the two numbers, counted in units 2^finer times as fine, have between them?
func isNear(a near, low, high *big.Int) bool {
	units := oracle.Number(a.units)
	units.Lsh(units, finer)
	off := new(big.Int).SetUint64(a.off)
	off.Lsh(off, finer)
	least := new(big.Int).Sub(units, off)
	return least.Cmp(low) <= 0 && units.Add(units, off).Cmp(high) >= 0
}

// fractions: numbers up to 1, and small ones.
func fractions() []api.Dyadic {
	var out []api.Dyadic
	for i := range 20 {
		out = append(out, oracle.Times(big.NewInt(int64(4095-i*197)), -12), oracle.Times(big.NewInt(int64(4095-i*19)), -12-i*i))
	}
	return append(out, oracle.Fields(1, 0), oracle.Fields(-1, 0), oracle.Fields(1, -1), oracle.Long(3, -192), oracle.Fields(1, -900))
}

// squared: a number between low and high, by itself.
func squared(b oracle.Between, places int) (low, high *big.Int) {
	low = new(big.Int).Mul(b.Low, b.Low)
	high = new(big.Int).Mul(b.High, b.High)
	return low.Rsh(low, uint(places)), high.Rsh(high, uint(places)).Add(high, big.NewInt(1))
}

// g: the ratio of 2v, which is the square of sin v / v.
func g(v api.Dyadic, places int) (low, high *big.Int) {
	ratio, _ := oracle.Waves(v, places+finer)
	return squared(ratio, places+finer)
}

func halved(v api.Dyadic, n int) api.Dyadic {
	d, _ := dyadic.Scale(v, -n)
	return d
}

func TestSquareIsNear(t *testing.T) {
	for _, v := range fractions() {
		for places := 33; places < 300; places += 13 {
			size := oracle.Whole(v.Man)
			size.Mul(size, size)
			low := oracle.Shifted(size, 2*v.Exp+places+finer)
			a := squareOf(v, places)
			if high := new(big.Int).Add(low, big.NewInt(1)); !isNear(a, low, high) || oracle.Order(oracle.Number(a.units), -places, size, 2*v.Exp) > 0 {
				t.Errorf("the square of %s at %d places is %x", oracle.Tell(v), places, a.units)
			}
		}
	}
}

// A number whose square is cut by as much as can be: nearly two units for what is cut from the number, nearly one for what is cut from the square.
func TestSquareIsOffByNearlyThree(t *testing.T) {
	const places, more = 64, 10
	units := new(big.Int).Lsh(big.NewInt(1), places)
	units.Sub(units, big.NewInt(1<<(places/2)-1)) // the square of 2^32 - 1 is nearly 2^64
	fine := new(big.Int).Lsh(units, more)
	fine.Add(fine, big.NewInt(1<<more-1))
	a := squareOf(oracle.Times(fine, -places-more), places)
	fine.Mul(fine, fine)
	least := new(big.Int).Add(oracle.Number(a.units), big.NewInt(2))
	if oracle.Order(least, -places, fine, -2*(places+more)) >= 0 {
		t.Errorf("the square is off by less than 2 units")
	}
	most := new(big.Int).Add(oracle.Number(a.units), new(big.Int).SetUint64(a.off))
	if oracle.Order(most, -places, fine, -2*(places+more)) < 0 {
		t.Errorf("the square is off by more than it says")
	}
}

func TestRatioIsNear(t *testing.T) {
	for _, v := range fractions() {
		for _, places := range []int{33, 34, 50, 96, 160, 400} {
			square := squareOf(v, places)
			for _, n := range []int{0, 1, 2, 3, 7, 20, 100} {
				low, high := g(halved(v, n+1), places)
				if a := series(square.part(2 * n)); !isNear(a, low, high) {
					t.Errorf("the sum for %s / 2^%d at %d places is %x", oracle.Tell(v), n, places, a.units)
				}
				low, high = g(halved(v, 1), places)
				if a := ratio(square, n, n); !isNear(a, low, high) {
					t.Errorf("the ratio of %s by %d halvings at %d places is %x", oracle.Tell(v), n, places, a.units)
				}
				low, high = g(v, places)
				if a := ratio(square, n, n+1); !isNear(a, low, high) {
					t.Errorf("the ratio of twice %s by %d halvings at %d places is %x", oracle.Tell(v), n, places, a.units)
				}
			}
		}
	}
}

func TestRootAndCosineAreNear(t *testing.T) {
	for _, v := range fractions() {
		for _, places := range []int{33, 34, 50, 96, 160, 400} {
			square := squareOf(v, places)
			sine, cosine := oracle.Waves(v, places+finer)
			if a := ratio(square, 5, 6).root(); !isNear(a, sine.Low, sine.High) {
				t.Errorf("sin v / v of %s at %d places is %x", oracle.Tell(v), places, a.units)
			}
			if a := lessened(square, ratio(square, 5, 5)); !isNear(a, cosine.Low, cosine.High) {
				t.Errorf("cos %s at %d places is %x", oracle.Tell(v), places, a.units)
			}
		}
	}
}

// What is off stays far below the bits that are spare: at the longest sums, and where hardly any halving makes them shorter.
func TestOffIsSmall(t *testing.T) {
	places := api.MaxSeries + spare
	v := dyadic.Of(1)
	n := halvings(v, places)
	if a := ratio(squareOf(v, places), n, n+1); a.off > 1<<14 {
		t.Errorf("the longest sum is off by up to %d units", a.off)
	}
	if n < 40 || n > 400 {
		t.Errorf("1 is halved %d times", n)
	}
	if halvings(oracle.Fields(1, -5000), places) != 0 {
		t.Errorf("a small number is halved all the same")
	}
}

// All that a number may be, but nothing beyond 0 and 1.
func TestSpanOfNear(t *testing.T) {
	for _, c := range []struct {
		units, off uint64
		lo, hi     api.Dyadic
	}{
		{5, 2, oracle.Fields(3, -4), oracle.Fields(7, -4)}, {16, 0, oracle.Fields(1, 0), oracle.Fields(1, 0)}, {15, 1, oracle.Fields(7, -3), oracle.Fields(1, 0)}, {15, 2, oracle.Fields(13, -4), oracle.Fields(1, 0)}, {16, 3, oracle.Fields(13, -4), oracle.Fields(1, 0)}, {2, 3, api.Dyadic{}, oracle.Fields(5, -4)},
	} {
		s := near{[]uint64{c.units}, c.off, 4}.span()
		if !oracle.Same(s.Lo, c.lo) || !oracle.Same(s.Hi, c.hi) {
			t.Errorf("%d units of 1/16, off by %d: %s", c.units, c.off, oracle.TellSpan(s))
		}
	}
}
