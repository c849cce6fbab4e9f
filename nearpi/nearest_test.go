package nearpi_test

import (
	"math"
	"math/big"
	"slices"
	"testing"

	"gnomon/api"
	"gnomon/nearpi"
	"gnomon/oracle"
)

// far is how many bits behind the point pi/2 is taken with here: at the greatest k it is wrong by less than 2^-400, while no two pairs have distances as like as that.
const far = 1450

var one = big.NewInt(1)

// number: m * 2^exp, counted in 2^-far.
func number(m uint64, exp int) *big.Int {
	x := new(big.Int).SetUint64(m)
	return x.Lsh(x, uint(far+exp))
}

// gap: how far apart m * 2^exp and k * pi/2 are, counted in 2^-far, half being pi/2.
func gap(half *big.Int, m uint64, exp int, k *big.Int) *big.Int {
	x := new(big.Int).Mul(half, k)
	return x.Sub(number(m, exp), x).Abs(x)
}

// search: the nearest pair, of all m of so many bits each with the k nearest to it.
func search(half *big.Int, bits, exp int) (m uint64, k, least *big.Int) {
	for n := uint64(1) << (bits - 1); n < 1<<bits; n++ {
		multiple := number(n, exp)
		multiple.Add(multiple, new(big.Int).Rsh(half, 1)).Quo(multiple, half)
		if multiple.Sign() == 0 {
			multiple.SetInt64(1)
		}
		if d := gap(half, n, exp, multiple); least == nil || d.Cmp(least) < 0 {
			m, k, least = n, multiple, d
		}
	}
	return m, k, least
}

// depth: the d with 2^-d < distance < 2^(1-d), of a distance counted in 2^-far.
func depth(distance *big.Int) int { return far + 1 - distance.BitLen() }

func TestP13_3_Examples(t *testing.T) {
	for _, c := range []struct {
		bits, exp int
		man, k    uint64
		depth     int
	}{
		{1, 0, 1, 1, 1}, {2, 0, 3, 2, 3}, {4, 0, 11, 7, 8}, {9, 0, 355, 226, 16}, {1, -3, 1, 1, 0}, {3, -3, 7, 1, 1},
	} {
		a, e := nearpi.Nearest(c.bits, c.exp)
		if e != api.OK || a.Man != c.man || !slices.Equal(a.K, []uint64{c.k}) || a.Depth != c.depth {
			t.Errorf("Nearest(%d, %d) is %d, error %d", c.bits, c.exp, a, e)
		}
	}
	if a, e := nearpi.Nearest(53, 797); e != api.OK || a.Man != 6381956970095103 || a.Depth != 61 {
		t.Errorf("Nearest(53, 797) is %d, error %d", a, e)
	}
}

func TestP13_3_BySearch(t *testing.T) {
	half := oracle.Pi(far - 1)
	same := func(bits, exp int) {
		m, k, distance := search(half, bits, exp)
		a, e := nearpi.Nearest(bits, exp)
		if e != api.OK || a.Man != m || !slices.Equal(a.K, oracle.Natural(k)) || a.Depth != depth(distance) {
			t.Errorf("Nearest(%d, %d) is %d, error %d; a search finds %d, %d, depth %d", bits, exp, a, e, m, k, depth(distance))
		}
	}
	for exp := -64; exp <= 971; exp++ {
		for bits := 1; bits <= 5; bits++ {
			same(bits, exp)
		}
	}
	for exp := -64; exp <= 70; exp++ {
		for bits := 6; bits <= 10; bits++ {
			same(bits, exp)
		}
	}
	for _, exp := range []int{-16, -15, -14, -5, 0, 5, 40, 100, 500, 970, 971} {
		same(14, exp)
	}
}

// floorSum: the sum of the floors of (a*i + b) / m for i from 0 to n-1.
func floorSum(n, m, a, b *big.Int) *big.Int {
	sum := new(big.Int)
	for {
		pairs := new(big.Int).Sub(n, one)
		pairs.Mul(pairs, n).Rsh(pairs, 1)
		u, a1 := new(big.Int).QuoRem(a, m, new(big.Int))
		v, b1 := new(big.Int).QuoRem(b, m, new(big.Int))
		sum.Add(sum, u.Mul(u, pairs)).Add(sum, v.Mul(v, n))
		top := new(big.Int).Mul(a1, n)
		top.Add(top, b1)
		if top.Cmp(m) < 0 {
			return sum
		}
		n, b = new(big.Int).QuoRem(top, m, new(big.Int))
		m, a = a1, m
	}
}

// within: how many m of so many bits have a multiple of half, be it nought, at most so far away.
func within(half *big.Int, bits, exp int, distance *big.Int) *big.Int {
	n := new(big.Int).Lsh(one, uint(bits-1))
	first := number(1<<(bits-1), exp)
	upper := new(big.Int).Add(first, distance)
	lower := new(big.Int).Sub(first, distance)
	lower.Sub(lower, one).Add(lower, half) // a whole half more, so that none lies below nought; it counts n too many
	count := floorSum(n, half, number(1, exp), upper)
	count.Sub(count, floorSum(n, half, number(1, exp), lower))
	return count.Add(count, n)
}

// nearestOf looks, by counting, whether the pair that is told is as near as all others but itself are not.
func nearestOf(t *testing.T, half *big.Int, bits, exp int) {
	t.Helper()
	a, e := nearpi.Nearest(bits, exp)
	if e != api.OK || a.Man>>(bits-1) != 1 || len(a.K) == 0 {
		t.Errorf("Nearest(%d, %d) is %d, error %d", bits, exp, a, e)
		return
	}
	distance := gap(half, a.Man, exp, oracle.Number(a.K))
	if a.Depth != depth(distance) {
		t.Errorf("Nearest(%d, %d): Depth %d, and it lies as deep as %d", bits, exp, a.Depth, depth(distance))
	}
	if bits+exp <= 0 { // all m * 2^exp are below 1: nought is nearer than pi/2, but does not count
		if a.Man != 1<<bits-1 || !slices.Equal(a.K, []uint64{1}) {
			t.Errorf("Nearest(%d, %d) is %d", bits, exp, a)
		}
		return
	}
	if n := within(half, bits, exp, distance); n.Cmp(one) != 0 {
		t.Errorf("Nearest(%d, %d) is %d, and %s are as near as that", bits, exp, a, n)
	}
}

func TestP13_3_NoneIsNearer(t *testing.T) {
	half := oracle.Pi(far - 1)
	for exp := -64; exp <= 971; exp++ {
		for _, bits := range []int{53, 24, 1 + (exp+64)%53} {
			nearestOf(t, half, bits, exp)
		}
	}
	for bits := 1; bits <= 53; bits++ {
		for _, exp := range []int{-64, -63, 1 - bits, -bits, 2 - bits, -1, 0, 1, 797, 970, 971} {
			nearestOf(t, half, bits, exp)
		}
	}
}

// The counting itself, against a search.
func TestWithin(t *testing.T) {
	half := oracle.Pi(far - 1)
	for bits := 1; bits <= 8; bits++ {
		for exp := 1 - bits; exp < 60; exp += 7 {
			_, _, least := search(half, bits, exp)
			if n := within(half, bits, exp, least); n.Cmp(one) != 0 {
				t.Errorf("%s of %d bits at %d are as near as the nearest", n, bits, exp)
			}
			if n := within(half, bits, exp, new(big.Int).Sub(least, one)); n.Sign() != 0 {
				t.Errorf("%s of %d bits at %d are nearer than the nearest", n, bits, exp)
			}
		}
	}
}

func TestP13_3_Errors(t *testing.T) {
	bits := []int{0, -1, -53, 54, 64, 1 << 32, 1<<32 + 5, math.MaxInt, math.MinInt}
	exps := []int{-65, -66, 972, 1023, 1 << 32, math.MaxInt, math.MinInt}
	fails := func(bits, exp int) {
		if a, e := nearpi.Nearest(bits, exp); a.Man != 0 || len(a.K) != 0 || a.Depth != 0 || e != api.ErrArg {
			t.Errorf("Nearest(%d, %d) is %d, error %d", bits, exp, a, e)
		}
	}
	for _, b := range bits {
		for _, exp := range append(exps, -64, 0, 971) {
			fails(b, exp)
		}
	}
	for _, exp := range exps {
		for _, b := range []int{1, 30, 53} {
			fails(b, exp)
		}
	}
}
