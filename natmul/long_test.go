package natmul

import (
	"slices"
	"testing"

	"gnomon/oracle"
)

var mixed = oracle.Mixed

func dirty(n int) []uint64 { return slices.Repeat([]uint64{0xdddddddddddddddd}, n) }

func byRows(a, b []uint64) []uint64 {
	z := dirty(len(a) + len(b))
	rows(z, a, b)
	return z
}

func TestKaratsubaIsTheRows(t *testing.T) {
	for n := range 6 * karatsubaFrom {
		a, b := mixed(n, uint64(n)), mixed(n, uint64(n+5000))
		for _, c := range [][]uint64{b, a, dirty(n), slices.Repeat([]uint64{1<<64 - 1}, n)} {
			z := dirty(2 * n)
			karatsuba(z, a, c, dirty(scratchLimbs(n)))
			if !slices.Equal(z, byRows(a, c)) {
				t.Fatalf("karatsuba differs from the rows at %d limbs", n)
			}
		}
	}
}

func TestBlocksOfUnlikeLengths(t *testing.T) {
	near := []int{1, 2, karatsubaFrom - 1, karatsubaFrom, karatsubaFrom + 1, 2*karatsubaFrom - 1, 2 * karatsubaFrom, 3*karatsubaFrom + 7, 10 * karatsubaFrom}
	for _, i := range near {
		for _, j := range near {
			a, b := mixed(i, uint64(i)), mixed(j, uint64(j+9000))
			a[i-1], b[j-1] = 1<<63, 3
			if got := multiply(a, b); !slices.Equal(got, byRows(a, b)) {
				t.Errorf("multiply differs from the rows at %d and %d limbs", i, j)
			}
		}
	}
}
