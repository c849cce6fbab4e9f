package dd_test

import (
	"math"
	"testing"

	"gnomon/api"
	"gnomon/dd"
	"gnomon/oracle"
)

// exactly looks whether a double-double is in form and just the number of halves in form. Noughts of either sign are alike.
func exactly(t *testing.T, name string, got, want api.DD) {
	t.Helper()
	if got != want {
		t.Errorf("%s is %x, want %x", name, got, want)
	}
}

func TestP20_3_Of(t *testing.T) {
	for _, b := range oracle.Finite(api.Double) {
		x := oracle.Float(api.Double, b)
		exactly(t, "Of", dd.Of(x), pair(x, 0))
	}
	for _, x := range oracle.EndlessFloats() {
		exactly(t, "Of what is no number", dd.Of(x), pair(0, 0))
	}
}

func TestP20_4_Examples(t *testing.T) {
	exactly(t, "Sum(1, u/4)", dd.Sum(1, u/4), pair(1, u/4))
	exactly(t, "Sum(u/4, 1)", dd.Sum(u/4, 1), pair(1, u/4))
	exactly(t, "Sum(1, -1)", dd.Sum(1, -1), pair(0, 0))
	exactly(t, "Sum(2^300, 2^-300)", dd.Sum(0x1p300, 0x1p-300), pair(0x1p300, 0x1p-300))
	exactly(t, "Sum(2^-300, -2^300)", dd.Sum(0x1p-300, -0x1p300), pair(-0x1p300, 0x1p-300))
	exactly(t, "Sum(0, -7)", dd.Sum(0, -7), pair(-7, 0))
	exactly(t, "Sum(0, 0)", dd.Sum(0, math.Copysign(0, -1)), pair(0, 0))
}

// sums looks whether Sum is exact.
func sums(t *testing.T, a, b float64) {
	t.Helper()
	got := dd.Sum(a, b)
	if !oracle.InForm(got) || oracle.ExactDD(got).Cmp(oracle.Plus(oracle.Exact(a), oracle.Exact(b))) != 0 {
		t.Errorf("Sum(%x, %x) is %x", a, b, got)
	}
}

func TestP20_4_AllDistances(t *testing.T) {
	for distance := range 600 {
		for _, m := range someSignificands() {
			for _, n := range someSignificands() {
				a := m * 0x1p299
				b := math.Ldexp(n, 299-distance)
				for _, c := range [][2]float64{{a, b}, {a, -b}, {-a, b}, {-a, -b}} {
					sums(t, c[0], c[1])
					sums(t, c[1], c[0])
				}
			}
		}
	}
}

func TestP20_4_AllSizes(t *testing.T) {
	list := append(atSizes(-300, -299, -53, 0, 53, 298, 299), 0, 0x1p300)
	for _, a := range list {
		for _, b := range append(list, math.Nextafter(a, 0), math.Nextafter(a, 2*a)) {
			if fitFloat(b) {
				sums(t, a, b)
				sums(t, a, -b)
				sums(t, -a, b)
			}
		}
	}
}

func TestP20_5_Neg(t *testing.T) {
	exactly(t, "Neg", dd.Neg(pair(1, -u/2)), pair(-1, u/2))
	exactly(t, "Neg of nought", dd.Neg(pair(0, 0)), pair(0, 0))
	for _, a := range inForm(finitePairs()) {
		got := dd.Neg(a)
		if !oracle.InForm(got) || oracle.Plus(oracle.ExactDD(got), oracle.ExactDD(a)).Sign() != 0 {
			t.Errorf("Neg(%x) is %x", a, got)
		}
	}
}

// ordered looks at one comparison, and at it the other way round.
func ordered(t *testing.T, a, b api.DD, want int) {
	t.Helper()
	if got := dd.Cmp(a, b); got != want {
		t.Errorf("Cmp(%x, %x) is %d, want %d", a, b, got, want)
	}
	if got := dd.Cmp(b, a); got != -want {
		t.Errorf("Cmp(%x, %x) is %d, want %d", b, a, got, -want)
	}
}

func TestP20_6_Examples(t *testing.T) {
	ordered(t, pair(1, u/4), pair(1, -u/4), 1)
	ordered(t, pair(1, 0), pair(0, 1), 0)
	ordered(t, pair(2, 0), pair(0, 1), 0)
	ordered(t, pair(-1, 0), pair(-2, 0), 1)
	ordered(t, pair(-1, u/4), pair(-1, u/8), 1)
	ordered(t, pair(0, 0), pair(math.Copysign(0, -1), math.Copysign(0, -1)), 0)
	ordered(t, pair(1, math.SmallestNonzeroFloat64), pair(1, 0), 1)
	ordered(t, pair(1, u), pair(1+2*u, math.Nextafter(-u, 0)), -1)
	ordered(t, pair(math.MaxFloat64, 1), pair(-math.MaxFloat64, 1), 1)
}

func TestP20_6_Cmp(t *testing.T) {
	t.Parallel()
	list := inForm(finitePairs())
	for i, a := range list {
		x := oracle.ExactDD(a)
		others := list[i:min(i+40, len(list))] // many of these have the same Hi
		for k := range 20 {
			others = append(others[:len(others):len(others)], list[(i*7+k*k*131)%len(list)], minus(list[(i+k)%len(list)]))
		}
		for _, b := range others {
			ordered(t, a, b, x.Cmp(oracle.ExactDD(b)))
		}
	}
}

func TestP20_6_NotInForm(t *testing.T) {
	good := []api.DD{pair(0, 0), pair(1, u/4), pair(-2, 0), pair(math.MaxFloat64, 0)}
	for i, bad := range append(endlessPairs(), finitePairs()...) {
		if oracle.InForm(bad) {
			continue
		}
		ordered(t, bad, good[i%len(good)], 0)
		ordered(t, bad, bad, 0)
		ordered(t, bad, pair(0, 1), 0)
	}
}
