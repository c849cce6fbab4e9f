package ziv_test

import (
	"math"
	"slices"
	"testing"

	"gnomon/api"
	"gnomon/ziv"
)

// rungs: what P18.1 says of a ladder, reckoned from the top of the list down.
func rungs(start, last int) []int {
	if start < 1 || last > api.MaxRung || start > last {
		return nil
	}
	var out []int
	for k := range 17 {
		if r := start << k; r <= last {
			out = append(out, r)
		}
	}
	return out
}

// noLadders: starts and lasts that make none.
var noLadders = [][2]int{{0, 8}, {8, 7}, {8, api.MaxRung + 1}, {-1, 5}, {-5, -1}, {0, 0}, {1, 0}, {1, -1}, {api.MaxRung, api.MaxRung + 1}, {api.MaxRung + 1, api.MaxRung + 1}, {api.MaxRung + 1, api.MaxRung}, {1, math.MaxInt}, {math.MaxInt, math.MaxInt}, {1<<62 + 1, math.MaxInt}, {math.MinInt, math.MaxInt}, {math.MinInt, 1}, {math.MaxInt, math.MinInt}, {1, 1 << 32}, {1<<32 + 1, 1<<32 + 5}}

func ladderIs(t *testing.T, start, last int, want []int) {
	t.Helper()
	ladder := ziv.Ladder(start, last)
	if ladder == nil {
		t.Fatalf("Ladder(%d, %d) is nil", start, last)
	}
	for range 3 { // each time it gives the same
		if got := slices.Collect(ladder); !slices.Equal(got, want) {
			t.Errorf("Ladder(%d, %d) gives %v, want %v", start, last, got, want)
		}
	}
}

func TestP18_1_Examples(t *testing.T) {
	ladderIs(t, 128, 1024, []int{128, 256, 512, 1024})
	ladderIs(t, 100, 399, []int{100, 200})
	ladderIs(t, 5, 5, []int{5})
	ladderIs(t, 0, 8, nil)
	ladderIs(t, 8, 7, nil)
	ladderIs(t, 8, 66001, nil)
	ladderIs(t, api.Start, api.Cap, []int{128, 256, 512, 1024, 2048, 4096, 8192, 16384, 32768, 65536})
	ladderIs(t, 1, 9, []int{1, 2, 4, 8})
	ladderIs(t, 33000, api.MaxRung, []int{33000, 66000})
	ladderIs(t, 33001, api.MaxRung, []int{33001})
	ladderIs(t, api.MaxRung, api.MaxRung, []int{66000})
}

func TestP18_1_Rungs(t *testing.T) {
	for start := 1; start <= 70; start++ {
		for last := start; last <= 300; last++ {
			ladderIs(t, start, last, rungs(start, last))
		}
	}
	for _, start := range []int{1, 2, 3, 128, 1000, 32767, 32768, 33000, 33001, 65999, api.MaxRung} {
		for _, last := range []int{start, start + 1, 2*start - 1, 2 * start, 4*start - 1, 4 * start, api.Cap, api.MaxRung - 1, api.MaxRung} {
			ladderIs(t, start, last, rungs(start, last))
		}
	}
}

func TestP18_1_None(t *testing.T) {
	for _, c := range noLadders {
		ladderIs(t, c[0], c[1], nil)
	}
}

// A user who stops at the n-th rung is given n of them, and can begin anew.
func TestP18_1_Stopped(t *testing.T) {
	ladder := ziv.Ladder(3, 1000)
	all := slices.Collect(ladder)
	for n := 1; n <= len(all); n++ {
		var got []int
		ladder(func(r int) bool {
			got = append(got, r)
			return len(got) < n
		})
		if !slices.Equal(got, all[:n]) {
			t.Errorf("a ladder that is left at rung %d gave %v", n, got)
		}
	}
}

// One ladder ranged over within a range over itself: neither disturbs the other.
func TestP18_1_Nested(t *testing.T) {
	ladder := ziv.Ladder(5, 47)
	var got []int
	for a := range ladder {
		for b := range ladder {
			got = append(got, a+b)
			if b > a {
				break
			}
		}
	}
	if want := []int{10, 15, 15, 20, 30, 25, 30, 40, 60, 45, 50, 60, 80}; !slices.Equal(got, want) {
		t.Errorf("nested: %v, want %v", got, want)
	}
}
