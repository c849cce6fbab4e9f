package nearpi

import (
	"slices"
	"testing"

	"gnomon/nat"
)

func ratio(over, under uint64) fraction { return fraction{nat.Word(over), nat.Word(under)} }

func TestCommonQuotients(t *testing.T) {
	for _, c := range []struct {
		a, b fraction
		want []uint64
	}{
		{ratio(3, 2), ratio(3, 2), []uint64{1, 2}}, // an end that has no more of them ends all
		{ratio(3, 2), ratio(14, 9), []uint64{1}},   // 3/2 has 1, 2; and 14/9 has 1, 1, 1, 4
		{ratio(14, 9), ratio(11, 7), []uint64{1, 1, 1}},
		{ratio(11, 7), ratio(14, 9), []uint64{1, 1, 1}},
		{ratio(11, 7), ratio(344, 219), []uint64{1, 1, 1, 3}},
		{ratio(344, 219), ratio(11, 7), []uint64{1, 1, 1, 3}},
		{ratio(2, 9), ratio(2, 7), []uint64{0}},
		{ratio(1, 2), ratio(1, 1), nil},
		{ratio(5, 0), ratio(5, 1), nil},
		{ratio(5, 1), ratio(5, 0), nil},
	} {
		var got []uint64
		for i, quotient := range common(c.a, c.b) {
			if i != len(got) {
				t.Errorf("between %d and %d: the place %d where %d is next", c.a, c.b, i, len(got))
			}
			got = append(got, word(quotient))
		}
		if !slices.Equal(got, c.want) {
			t.Errorf("between %d and %d: %d, not %d", c.a, c.b, got, c.want)
		}
	}
}

// A taker that leaves early is asked no more, and one that goes on is told each of them once, whatever the bits it took.
func TestQuotientsGoOn(t *testing.T) {
	var all []uint64
	for quotient := range quotients(0) {
		all = append(all, word(quotient))
		if len(all) == 500 {
			break
		}
	}
	for n := 1; n <= 500; n += 7 {
		var few []uint64
		for quotient := range quotients(0) {
			few = append(few, word(quotient))
			if len(few) == n {
				break
			}
		}
		if !slices.Equal(few, all[:n]) {
			t.Errorf("the first %d are not the beginning of the first 500", n)
		}
	}
}
