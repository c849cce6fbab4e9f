package piconst_test

import (
	"math"
	"math/big"
	"testing"

	"gnomon/api"
	"gnomon/oracle"
	"gnomon/piconst"
	"gnomon/span"
)

// right looks whether Arctan(n, p) is all that P12.1 asks for.
func right(t *testing.T, n, p int) {
	t.Helper()
	s, e := piconst.Arctan(n, p)
	if e != api.OK || !span.Form(s) {
		t.Errorf("Arctan(%d, %d): error %d, or it is not in form", n, p, e)
		return
	}
	for _, d := range []api.Dyadic{s.Lo, s.Hi} {
		if d.Exp < -p-8 {
			t.Errorf("an end of Arctan(%d, %d) is no multiple of 2^-(p+8): %s", n, p, oracle.Tell(d))
		}
	}
	low, high := units(s.Lo, p), units(s.Hi, p)
	width := new(big.Int).Sub(high, low)
	if width.Cmp(big.NewInt(256)) > 0 {
		t.Errorf("Arctan(%d, %d) is %s * 2^-(p+8) wide", n, p, width)
	}
	const spare = 100
	least, most := oracle.Arctan(n, p+8+spare)
	if low.Lsh(low, spare).Cmp(least) > 0 || high.Lsh(high, spare).Cmp(most) < 0 {
		t.Errorf("Arctan(%d, %d) = %s does not hold it", n, p, oracle.TellSpan(s))
	}
}

// units: how many 2^-(p+8) d has, rounded down.
func units(d api.Dyadic, p int) *big.Int {
	x := oracle.Whole(d.Man)
	if n := d.Exp + p + 8; n > 0 {
		return x.Lsh(x, uint(n))
	}
	return x.Rsh(x, uint(-d.Exp-p-8))
}

func TestP12_1_Arctan(t *testing.T) {
	for _, n := range []int{2, 3, 4, 5, 6, 7, 8, 57, 239, 1 << 16, 1<<16 + 1, 1<<31 - 1, 1<<32 - 1, 1 << 32} {
		for p := 1; p <= 140; p++ {
			right(t, n, p)
		}
		for _, p := range []int{191, 192, 193, 300, 511, 512, 1000, 4097} {
			right(t, n, p)
		}
	}
}

func TestP12_1_EveryN(t *testing.T) {
	for n := 2; n <= 2000; n++ {
		for _, p := range []int{1, 3, 11, 24, 53, 100} {
			right(t, n, p)
		}
	}
}

// At p = 1 to 23 a grid of 2^-(p+8) has no number between nought and arctan(2^-32).
func TestP12_1_FarAbove(t *testing.T) {
	for p := 1; p <= 40; p++ {
		for n := 1 << 32; n > 1<<20; n /= 2 {
			right(t, n, p)
			right(t, n-1, p)
		}
	}
}

func TestP12_1_AtMaxPrec(t *testing.T) {
	for _, n := range []int{2, 3, 5, 239, 1 << 32} {
		right(t, n, api.MaxPrec)
	}
	right(t, 5, api.MaxPrec-1)
}

func TestP12_1_Errors(t *testing.T) {
	for _, n := range []int{1, 0, -1, -2, -5, 1<<32 + 1, 1<<32 + 5, 1 << 33, math.MaxInt, math.MinInt} {
		for _, p := range append(noPrecisions(), 1, 10, api.MaxPrec) {
			if s, e := piconst.Arctan(n, p); !empty(s) || e != api.ErrArg {
				t.Errorf("Arctan(%d, %d): %s, error %d", n, p, oracle.TellSpan(s), e)
			}
		}
	}
}
