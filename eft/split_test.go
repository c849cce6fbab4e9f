package eft_test

import (
	"math"
	"testing"

	"gnomon/eft"
	"gnomon/oracle"
)

// splits looks whether Split answers two short numbers that are a together, the second one small.
func splits(t *testing.T, a float64) {
	t.Helper()
	h, l := eft.Split(a)
	if !oracle.IsFinite(h) || !oracle.IsFinite(l) {
		t.Errorf("Split(%x) = %x, %x", a, h, l)
		return
	}
	high, low, whole := oracle.Exact(h), oracle.Exact(l), oracle.Exact(a)
	bound := oracle.Product(oracle.Exact(0x1p-26), oracle.Exact(math.Abs(a)))
	size := oracle.Exact(math.Abs(l))
	switch {
	case oracle.Plus(high, low).Cmp(whole) != 0:
		t.Errorf("Split(%x) = %x, %x: not the number", a, h, l)
	case bits(high) > 26 || bits(low) > 26:
		t.Errorf("Split(%x) = %x, %x: of %d and %d bits", a, h, l, bits(high), bits(low))
	case a != 0 && size.Cmp(bound) >= 0, bits(whole) <= 26 && l != 0:
		t.Errorf("Split(%x) = %x, %x: the second one is not small", a, h, l)
	}
}

func TestP19_3_Examples(t *testing.T) {
	for _, c := range [][3]float64{{1 + 0x1p-30, 1, 0x1p-30}, {0x1p26 - 1, 0x1p26 - 1, 0}, {0, 0, 0}, {math.Copysign(0, -1), 0, 0}, {0x1p995, 0x1p995, 0}, {-0x1p995, -0x1p995, 0}, {0x1p-1074, 0x1p-1074, 0}, {0x1p53 - 1, 0x1p53, -1}} {
		if h, l := eft.Split(c[0]); h != c[1] || l != c[2] {
			t.Errorf("Split(%x) = %x, %x, want %x, %x", c[0], h, l, c[1], c[2])
		}
	}
	if h, l := eft.Split(0x1p27 - 1); !(h == 0x1p27 && l == -1) && !(h == 0x1p27-2 && l == 1) {
		t.Errorf("Split(2^27 - 1) = %x, %x", h, l)
	}
}

// sizes: exponents at which numbers from 1 on and below 2 become at most 2^995, the subnormal ones among them.
func sizes() []int {
	return []int{-1074, -1073, -1060, -1050, -1048, -1047, -1030, -1023, -1022, -1021, -996, -500, -27, -1, 0, 1, 26, 52, 53, 500, 993, 994}
}

func TestP19_3_AllLengths(t *testing.T) {
	for _, exp := range sizes() {
		for length := 1; length <= 53; length++ {
			unit := math.Ldexp(1, 1-length)
			for _, m := range []float64{2 - unit, 1 + unit, 0x1.8p0 + unit, 0x1.5555555555555p0} {
				x := math.Ldexp(math.Floor(m/unit)*unit, exp)
				splits(t, x)
				splits(t, -x)
			}
		}
	}
}

// Numbers of 26 bits and a half of their last one, and what stands beside these.
func TestP19_3_HalfWay(t *testing.T) {
	for _, exp := range sizes() {
		for _, m := range []float64{1, 0x1.0000008p0, 0x1.000001p0, 0x1.8p0, 0x1.ffffffp0, 0x1.ffffff8p0, 0x1.5555558p0, 0x1.aaaaaap0} {
			x := math.Ldexp(m+0x1p-26, exp)
			for _, x := range []float64{x, math.Nextafter(x, 0), math.Nextafter(x, 2*x)} {
				splits(t, x)
				splits(t, -x)
			}
		}
	}
}

func TestP19_3_Split(t *testing.T) {
	splits(t, 0x1p995)
	splits(t, -0x1p995)
	splits(t, 0)
	for _, exp := range sizes() {
		for _, m := range oracle.Significands() {
			splits(t, math.Ldexp(m, exp))
			splits(t, math.Ldexp(-m, exp))
		}
	}
	for _, w := range oracle.Words(50000) {
		splits(t, oracle.FloatOf(w, -1074, 995))
		splits(t, oracle.FloatOf(w, 0, 1))
	}
}
