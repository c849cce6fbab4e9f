package piconst_test

import (
	"math"
	"math/big"
	"slices"
	"testing"

	"gnomon/api"
	"gnomon/dyadic"
	"gnomon/oracle"
	"gnomon/piconst"
	"gnomon/span"
)

type floorCall = func(p int) ([]uint64, api.Errno)

type spanCall = func(p int) (api.Span, api.Errno)

// number is one of the two that the layer tells: its calls, and its floor at MaxPrec by another way.
type number struct {
	name   string
	floor  floorCall
	around spanCall
	most   *big.Int
}

func numbers() []number {
	return []number{
		{"Pi", piconst.FloorPi, piconst.Pi, oracle.Pi(api.MaxPrec)},
		{"Inv", piconst.FloorInv, piconst.Inv, oracle.TwoByPi(api.MaxPrec)},
	}
}

// at: the floor at p: the upper bits of the floor at MaxPrec.
func (n number) at(p int) *big.Int {
	return new(big.Int).Rsh(n.most, uint(api.MaxPrec-p))
}

// precisions: the small ones all, those about multiples of a limb, and the last ones.
func precisions() []int {
	var out []int
	for p := range 500 {
		out = append(out, p+1)
	}
	for limbs := 8; limbs <= 64; limbs++ {
		out = append(out, 64*limbs-1, 64*limbs, 64*limbs+1)
	}
	return append(out, 9999, 16384, 40000, api.MaxPrec-1, api.MaxPrec)
}

// noPrecisions: numbers that are outside the range.
func noPrecisions() []int {
	return []int{0, -1, -64, api.MaxPrec + 1, api.MaxPrec + 64, 1 << 32, 1<<32 + 5, math.MaxInt, math.MinInt}
}

func TestP12_2_Examples(t *testing.T) {
	for _, c := range []struct {
		p       int
		pi, inv []uint64
	}{
		{1, []uint64{6}, []uint64{1}},
		{3, []uint64{25}, []uint64{5}},
		{64, []uint64{0x243f6a8885a308d3, 3}, []uint64{0xa2f9836e4e441529}},
	} {
		if a, e := piconst.FloorPi(c.p); !slices.Equal(a, c.pi) || e != api.OK {
			t.Errorf("FloorPi(%d) is %x, error %d", c.p, a, e)
		}
		if a, e := piconst.FloorInv(c.p); !slices.Equal(a, c.inv) || e != api.OK {
			t.Errorf("FloorInv(%d) is %x, error %d", c.p, a, e)
		}
	}
	if a, _ := piconst.FloorPi(64); oracle.Number(a).String() != "57952155664616982739" {
		t.Errorf("FloorPi(64) is %s", oracle.Number(a))
	}
}

func TestP12_2_Floors(t *testing.T) {
	for _, n := range numbers() {
		for _, p := range precisions() {
			if a, e := n.floor(p); e != api.OK || !slices.Equal(a, oracle.Natural(n.at(p))) {
				t.Errorf("Floor%s(%d): error %d, or it is not the floor", n.name, p, e)
			}
		}
	}
}

func TestP12_3_Examples(t *testing.T) {
	d := oracle.Fields
	for _, c := range []struct {
		name   string
		f      spanCall
		p      int
		lo, hi api.Dyadic
	}{
		{"Pi", piconst.Pi, 1, d(3, 0), d(7, -1)},
		{"Pi", piconst.Pi, 2, d(3, 0), d(13, -2)},
		{"Pi", piconst.Pi, 3, d(25, -3), d(13, -2)},
		{"Inv", piconst.Inv, 1, d(1, -1), d(1, 0)},
		{"Inv", piconst.Inv, 2, d(1, -1), d(3, -2)},
		{"Inv", piconst.Inv, 3, d(5, -3), d(3, -2)},
	} {
		s, e := c.f(c.p)
		if e != api.OK || !oracle.Same(s.Lo, c.lo) || !oracle.Same(s.Hi, c.hi) {
			t.Errorf("%s(%d) is %s, error %d", c.name, c.p, oracle.TellSpan(s), e)
		}
	}
}

// Among so many precisions the lower end is as often even as odd, and so is the upper one.
func TestP12_3_Neighbours(t *testing.T) {
	for _, n := range numbers() {
		for _, p := range precisions() {
			s, e := n.around(p)
			low := n.at(p)
			lo, hi := oracle.Times(low, -p), oracle.Times(new(big.Int).Add(low, big.NewInt(1)), -p)
			if e != api.OK || !span.Form(s) || !oracle.Same(s.Lo, lo) || !oracle.Same(s.Hi, hi) {
				t.Errorf("%s(%d) is %s, error %d", n.name, p, oracle.TellSpan(s), e)
			}
		}
	}
}

func TestP12_4_BeginsWithTheOneBefore(t *testing.T) {
	for _, f := range []floorCall{piconst.FloorPi, piconst.FloorInv} {
		for _, from := range []int{1, 4000, api.MaxPrec - 1} {
			a, _ := f(from)
			before := oracle.Number(a)
			for p := from + 1; p < from+600 && p <= api.MaxPrec; p++ {
				a, _ := f(p)
				now := oracle.Number(a)
				if before.Cmp(new(big.Int).Rsh(now, 1)) != 0 {
					t.Fatalf("the floor at %d does not begin with the one before", p)
				}
				before = now
			}
		}
	}
}

func TestP12_5_Product(t *testing.T) {
	one := big.NewInt(1)
	for _, p := range precisions() {
		a, _ := piconst.FloorPi(p)
		b, _ := piconst.FloorInv(p)
		x, y := oracle.Number(a), oracle.Number(b)
		two := new(big.Int).Lsh(one, uint(2*p+1))
		if new(big.Int).Mul(x, y).Cmp(two) >= 0 {
			t.Errorf("the product of the floors at %d is too great", p)
		}
		if x.Add(x, one).Mul(x, y.Add(y, one)).Cmp(two) <= 0 {
			t.Errorf("the product of what follows the floors at %d is too small", p)
		}
	}
}

func TestErrors(t *testing.T) {
	for _, p := range noPrecisions() {
		for _, f := range []floorCall{piconst.FloorPi, piconst.FloorInv} {
			if a, e := f(p); len(a) != 0 || e != api.ErrArg {
				t.Errorf("a floor at %d: %x, error %d", p, a, e)
			}
		}
		for _, f := range []spanCall{piconst.Pi, piconst.Inv, func(p int) (api.Span, api.Errno) { return piconst.Arctan(5, p) }} {
			if s, e := f(p); !empty(s) || e != api.ErrArg {
				t.Errorf("a span at %d: %s, error %d", p, oracle.TellSpan(s), e)
			}
		}
	}
}

func empty(s api.Span) bool {
	return oracle.Same(s.Lo, api.Dyadic{}) && oracle.Same(s.Hi, api.Dyadic{})
}

// term is factor * arctan(1/n) of a formula.
type term struct{ factor, n int }

func TestP12_6_Formulas(t *testing.T) {
	for _, f := range []struct {
		name  string
		terms [2]term
	}{
		{"Machin", [2]term{{16, 5}, {-4, 239}}}, {"Euler", [2]term{{4, 2}, {4, 3}}}, {"Hermann", [2]term{{8, 2}, {-4, 7}}}, {"Hutton", [2]term{{8, 3}, {4, 7}}},
	} {
		for _, p := range []int{1, 2, 3, 5, 8, 53, 63, 64, 65, 128, 300, 1000, 4096, 20000} {
			s, e := span.Add(multiple(t, f.terms[0], p), multiple(t, f.terms[1], p), api.MaxPrec)
			pi, _ := piconst.Pi(p)
			if _, meets, e2 := span.Meet(s, pi); e != api.OK || e2 != api.OK || !meets {
				t.Errorf("%s's formula does not meet Pi(%d)", f.name, p)
			}
		}
	}
}

func multiple(t *testing.T, x term, p int) api.Span {
	t.Helper()
	a, e := piconst.Arctan(x.n, p)
	if e != api.OK {
		t.Fatalf("Arctan(%d, %d): error %d", x.n, p, e)
	}
	factor, _ := span.Point(dyadic.Of(x.factor))
	s, _ := span.Mul(factor, a, api.MaxPrec)
	return s
}
