package oracle

import (
	"math/big"
	"testing"

	"gnomon/api"
)

// about: the numbers from m to m + 1, both times 2^exp.
func about(sign int, m int64, exp int) Real {
	return Real{Sign: sign, Low: big.NewInt(m), High: big.NewInt(m + 1), Exp: exp}
}

func TestRealsAreRounded(t *testing.T) {
	for _, c := range []struct {
		f    api.Format
		v    Real
		want uint64
		ok   bool
	}{
		{api.Double, about(1, 1<<60, -60), 0x3ff0000000000000, true},
		{api.Double, about(-1, 1<<60, -60), 0xbff0000000000000, true},
		{api.Double, about(1, 1<<60+1<<7-1, -60), 0x3ff0000000000000, true},
		{api.Double, about(1, 1<<60+1<<7, -60), 0, false}, // from a midpoint on
		{api.Double, about(1, 1<<60+1<<7+1, -60), 0x3ff0000000000001, true},
		{api.Single, about(-1, 1<<60+1<<36+1, -60), 0xbf800001, true},
	} {
		if got, ok := c.v.Rounded(c.f); got != c.want || ok != c.ok {
			t.Errorf("%v of format %d rounds to %x, %v", c.v, c.f, got, ok)
		}
	}
}

func TestRealsAreClear(t *testing.T) {
	for _, c := range []struct {
		f     api.Format
		v     Real
		least int // the first precision at which v is clear of midpoints
	}{
		{api.Double, about(1, 1<<60, -60), 55},         // the lower midpoint is 2^-54 away
		{api.Double, about(-1, 3<<59, -60), 54},        // of 1.5 both are 2^-53 away
		{api.Double, about(1, 1<<60+1<<7-2, -60), 61},  // a hair below a midpoint
		{api.Double, about(-1, 1<<60+1<<7+1, -60), 61}, // a hair above it
		{api.Single, about(1, 1<<60, -60), 26},         // the lower midpoint is 2^-25 away
		{api.Double, about(1, 3<<58, -60-1074), 2},     // of 3/4 of the least number: a quarter to the midpoint below, as a third of it
		{api.Double, about(1, 1<<58, -60-1074), 1},     // of a quarter of it, which goes to nought
	} {
		for p := 1; p < 80; p++ {
			if got := c.v.Clear(c.f, p); got != (p >= c.least) {
				t.Errorf("%v of format %d at %d bits: %v", c.v, c.f, p, got)
			}
		}
	}
}
