package sintable_test

import (
	"math"
	"math/big"
	"testing"

	"gnomon/api"
	"gnomon/oracle"
	"gnomon/sintable"
)

// placeIs looks at a number and its opposite.
func placeIs(t *testing.T, x float64, want int, e api.Errno) {
	t.Helper()
	for _, x := range []float64{x, -x} {
		if j, err := sintable.Place(x); j != want || err != e {
			t.Errorf("Place(%x) is %d, error %d; want %d, error %d", x, j, err, want, e)
		}
	}
}

func below(x float64) float64 { return math.Nextafter(x, 0) }

func above(x float64) float64 { return math.Nextafter(x, 2) }

func TestP23_1_Examples(t *testing.T) {
	placeIs(t, 0, 0, api.OK)
	placeIs(t, 1.0/128, 1, api.OK)
	placeIs(t, -0.5, 32, api.OK)
	placeIs(t, 13.0/16, 52, api.OK)
	placeIs(t, above(13.0/16), 0, api.ErrLimit)
	placeIs(t, math.NaN(), 0, api.ErrClass)
	placeIs(t, math.Ldexp(9007199254740991, -60), 0, api.OK)
}

// Of every middle between two rows the greater one is told, and what stands beside it goes to the row on its side.
func TestP23_1_Middles(t *testing.T) {
	for j := range api.MaxRow {
		middle := float64(2*j+1) / 128
		placeIs(t, middle, j+1, api.OK)
		placeIs(t, above(middle), j+1, api.OK)
		placeIs(t, above(above(middle)), j+1, api.OK)
		placeIs(t, below(middle), j, api.OK)
		placeIs(t, below(below(middle)), j, api.OK)
	}
}

func TestP23_1_Rows(t *testing.T) {
	for j := range api.MaxRow {
		angle := float64(j) / 64
		placeIs(t, angle, j, api.OK)
		placeIs(t, above(angle), j, api.OK)
		placeIs(t, below(angle), j, api.OK) // that of nought is nought again
	}
	placeIs(t, below(13.0/16), 52, api.OK)
}

// wholeBelow: the floor of 64*|x| + 1/2, by fractions.
func wholeBelow(x float64) int {
	y := new(big.Rat).SetFloat64(math.Abs(x))
	y.Mul(y, big.NewRat(64, 1)).Add(y, big.NewRat(1, 2))
	return int(new(big.Int).Quo(y.Num(), y.Denom()).Int64())
}

func TestP23_1_ByFractions(t *testing.T) {
	seen := map[int]int{}
	for i, w := range oracle.Words(20000) {
		x := oracle.FloatOf(w, -12, 0)
		switch i % 4 {
		case 1: // all rows alike
			x = float64(w>>11) * 0x1p-53
		case 2: // all about the middles
			x = float64(2*(w%52)+1)/128 + oracle.FloatOf(w, -58, -8)
		case 3: // all sizes
			x = oracle.FloatOf(w, -1074, -7)
		}
		if math.Abs(x) > 13.0/16 {
			continue
		}
		placeIs(t, x, wholeBelow(x), api.OK)
		seen[wholeBelow(x)]++
	}
	for j := range api.MaxRow + 1 {
		if seen[j] < 20 {
			t.Errorf("row %d is told %d times", j, seen[j])
		}
	}
}

func TestP23_1_Small(t *testing.T) {
	for exp := -1074; exp < -7; exp++ {
		placeIs(t, math.Ldexp(1, exp), 0, api.OK)
		placeIs(t, math.Ldexp(0x1.fffffffffffffp0, exp), 0, api.OK)
	}
	placeIs(t, below(0x1p-1022), 0, api.OK)
}

func TestP23_1_Errors(t *testing.T) {
	for _, x := range []float64{above(13.0 / 16), 0.8125000000001, 105.0 / 128, below(105.0 / 128), 53.0 / 64, 1, 2, 0x1p52, 0x1p53, 0x1p57, 0x1p58, 0x1p63, 0x1p64, 1e300, math.MaxFloat64} {
		placeIs(t, x, 0, api.ErrLimit)
	}
	for exp := range 1024 {
		placeIs(t, math.Ldexp(1, exp), 0, api.ErrLimit)
	}
	for _, x := range oracle.EndlessFloats() {
		placeIs(t, x, 0, api.ErrClass)
	}
	for _, b := range oracle.NaNs(api.Double) {
		placeIs(t, math.Float64frombits(b), 0, api.ErrClass)
	}
}
