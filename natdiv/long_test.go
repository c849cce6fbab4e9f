package natdiv

import (
	"slices"
	"testing"
)

// A digit that three limbs by two leave one too great: only the whole divisor shows it, and the multiple is given back.
func TestADigitIsGivenBack(t *testing.T) {
	const half = 1 << 63
	a, b := []uint64{0, 0, half, half - 1}, []uint64{1, 0, half}
	if digit := trial(a, b); digit != 1<<64-1 {
		t.Fatalf("the trial digit is %x: this is no case for the giving back", digit)
	}
	q, r := divide(a, b)
	if !slices.Equal(q, []uint64{1<<64 - 2}) || !slices.Equal(r, []uint64{2, 1<<64 - 1, half - 1}) {
		t.Errorf("divide = %x, %x", q, r)
	}
}

// The window's top is equal to the divisor's: a division of the two words would have no word for its answer.
func TestTrialAtItsGreatest(t *testing.T) {
	const half = 1 << 63
	for _, c := range []struct {
		window, divisor []uint64
		want            uint64
	}{
		{[]uint64{0, 0, half}, []uint64{1<<64 - 1, half}, 1<<64 - 2},
		{[]uint64{0, half, half}, []uint64{half + 1, half}, 1<<64 - 1},
		{[]uint64{5, 0, half - 1}, []uint64{0, half}, 1<<64 - 2},
	} {
		if got := trial(c.window, c.divisor); got != c.want {
			t.Errorf("trial(%x, %x) = %x, want %x", c.window, c.divisor, got, c.want)
		}
	}
}
