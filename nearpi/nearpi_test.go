package nearpi_test

import (
	"math"
	"math/big"
	"slices"
	"testing"

	"gnomon/api"
	"gnomon/nearpi"
	"gnomon/oracle"
)

// quotientsOf: the partial quotients that a/c and b/c have in common, by Euclid's steps.
func quotientsOf(a, b, c *big.Int) []uint64 {
	var out []uint64
	d := c
	for c.Sign() > 0 && d.Sign() > 0 {
		q, r := new(big.Int).QuoRem(a, c, new(big.Int))
		u, v := new(big.Int).QuoRem(b, d, new(big.Int))
		if q.Cmp(u) != 0 || !q.IsUint64() {
			break
		}
		out = append(out, q.Uint64())
		a, c, b, d = c, r, d, v
	}
	return out
}

// halfPi: the partial quotients of pi/2, by twice the bits that a thousand of them take.
func halfPi() []uint64 {
	const p = 8000
	low := oracle.Pi(p)
	high := new(big.Int).Add(low, big.NewInt(1))
	return quotientsOf(low, high, new(big.Int).Lsh(big.NewInt(1), p+1))
}

func TestP13_1_Examples(t *testing.T) {
	if list, e := nearpi.Terms(7); e != api.OK || !slices.Equal(list, []uint64{1, 1, 1, 3, 31, 1, 145}) {
		t.Errorf("Terms(7) is %d, error %d", list, e)
	}
}

func TestP13_1_EachIsTheBeginningOfOneList(t *testing.T) {
	all := halfPi()
	if len(all) < 1000 {
		t.Fatalf("only %d partial quotients to hold the terms against", len(all))
	}
	for n := 1; n <= 1000; n++ {
		if n > 300 && n < 990 && n%10 != 0 {
			continue
		}
		if list, e := nearpi.Terms(n); e != api.OK || !slices.Equal(list, all[:n]) {
			t.Errorf("Terms(%d): %d terms, error %d, or not those of pi/2", n, len(list), e)
		}
	}
}

func TestP13_1_Errors(t *testing.T) {
	for _, n := range []int{0, -1, -1000, 1001, 1002, 1 << 32, 1<<32 + 7, math.MaxInt, math.MinInt} {
		if list, e := nearpi.Terms(n); len(list) != 0 || e != api.ErrArg {
			t.Errorf("Terms(%d) is %d, error %d", n, list, e)
		}
	}
}

func TestP13_2_Examples(t *testing.T) {
	for n, c := range [][2]uint64{{1, 1}, {2, 1}, {3, 2}, {11, 7}, {344, 219}, {355, 226}} {
		p, q, e := nearpi.Convergent(n)
		if e != api.OK || !slices.Equal(p, c[:1]) || !slices.Equal(q, c[1:]) {
			t.Errorf("Convergent(%d) is %d, %d, error %d", n, p, q, e)
		}
	}
}

func TestP13_2_Rule(t *testing.T) {
	terms := halfPi()
	before, last := [2]*big.Int{big.NewInt(0), big.NewInt(1)}, [2]*big.Int{big.NewInt(1), big.NewInt(0)}
	for n := range 1000 {
		var next [2]*big.Int
		for i := range next {
			next[i] = new(big.Int).SetUint64(terms[n])
			next[i].Mul(next[i], last[i]).Add(next[i], before[i])
		}
		before, last = last, next
		p, q, e := nearpi.Convergent(n)
		if e != api.OK || !slices.Equal(p, oracle.Natural(last[0])) || !slices.Equal(q, oracle.Natural(last[1])) {
			t.Errorf("Convergent(%d) is %x, %x, error %d", n, p, q, e)
		}
	}
}

func TestP13_2_Errors(t *testing.T) {
	for _, n := range []int{-1, -1000, 1000, 1001, 1 << 32, math.MaxInt, math.MinInt} {
		if p, q, e := nearpi.Convergent(n); len(p) != 0 || len(q) != 0 || e != api.ErrArg {
			t.Errorf("Convergent(%d) is %x, %x, error %d", n, p, q, e)
		}
	}
}
