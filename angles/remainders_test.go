package angles

import (
	"cmp"
	"math"
	"testing"

	"gnomon/api"
	"gnomon/oracle"
)

// The tests of the kernel are worth what these are.
func TestRemaindersHaveWhatIsNamed(t *testing.T) {
	seen := map[api.DD]bool{}
	rows := map[int]int{}
	exponents := map[int]int{}
	los := map[int]int{} // by sign
	for _, a := range Remainders() {
		if size := math.Abs(a.Hi); !oracle.InForm(a) || size < 0x1p-70 || size > 13.0/16 {
			t.Errorf("%x is among them", a)
		}
		seen[a] = true
		rows[int(math.Round(64*a.Hi))]++
		exponents[math.Ilogb(a.Hi)]++
		los[cmp.Compare(a.Lo, 0)]++
	}
	for j := -api.MaxRow; j <= api.MaxRow; j++ {
		if rows[j] < 100 {
			t.Errorf("%d of row %d", rows[j], j)
		}
	}
	for exp := -70; exp < 0; exp++ {
		if exponents[exp] < 50 {
			t.Errorf("%d of the exponent %d", exponents[exp], exp)
		}
	}
	if los[0] < 1000 || los[1] < 1000 || los[-1] < 1000 {
		t.Errorf("Los by sign: %v", los)
	}
	middle := 1.0 / 128
	for _, a := range []api.DD{{Hi: 0.5}, {Hi: 13.0 / 16}, {Hi: 13.0 / 16, Lo: 0x1p-54}, {Hi: 0x1p-70}, {Hi: 0x1p-70, Lo: -0x1p-124}, {Hi: middle, Lo: 0x1p-60}, {Hi: middle, Lo: -0x1p-61}, {Hi: math.Nextafter(middle, 0)}, {Hi: 0.5, Lo: math.SmallestNonzeroFloat64}} {
		if !seen[a] || !seen[api.DD{Hi: -a.Hi, Lo: -a.Lo}] {
			t.Errorf("%x is not among them", a)
		}
	}
}
