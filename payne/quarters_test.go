package payne

import (
	"math"
	"math/big"
	"testing"

	"gnomon/angles"
	"gnomon/api"
	"gnomon/oracle"
)

func (q quarters) whole() *big.Int { return oracle.Number([]uint64{q[3], q[2], q[1], q[0]}) }

// modulo: x without its whole turns, in units of 2^-254.
func modulo(x *big.Int) *big.Int {
	turn := new(big.Int).Lsh(big.NewInt(1), 256)
	return new(big.Int).Mod(x, turn)
}

// Of every power the window has all the bits that its units have room for.
func TestQuartersOfPowers(t *testing.T) {
	for exp := -53; exp <= 971; exp++ {
		if want := modulo(oracle.TwoByPi(exp + 254)); ofPower(exp).whole().Cmp(want) != 0 {
			t.Errorf("2^%d: %x, want %x", exp, ofPower(exp), want)
		}
	}
}

func someQuarters() []quarters {
	ones := ^uint64(0)
	out := []quarters{{}, {0, 0, 0, 1}, {1, 0, 0, 0}, {ones, ones, ones, ones}, {1 << 63}, {1 << 61, 0, 0, 0}, {1<<61 - 1, ones, ones, ones}, {0, ones, 0, ones}, {7, 0, 0, 0}}
	words := oracle.Words(400)
	for i := range 100 {
		out = append(out, quarters(words[4*i:4*i+4]))
	}
	return out
}

func TestQuartersByWholeNumbers(t *testing.T) {
	is := func(name string, got quarters, want *big.Int) {
		t.Helper()
		if got.whole().Cmp(modulo(want)) != 0 {
			t.Errorf("%s is %x, want %x", name, got, want)
		}
	}
	for _, q := range someQuarters() {
		x := q.whole()
		is("the opposite", q.opposite(), new(big.Int).Neg(x))
		for n := range 64 {
			is("what is halved", q.halved(n), new(big.Int).Rsh(x, uint(n)))
			is("what is doubled", q.doubled(n), new(big.Int).Lsh(x, uint(n)))
		}
		for _, m := range []uint64{0, 1, 2, 1 << 52, 1<<53 - 1, math.MaxUint64} {
			is("the product", q.times(m), new(big.Int).Mul(x, new(big.Int).SetUint64(m)))
		}
	}
}

func TestNearestQuarter(t *testing.T) {
	for _, q := range someQuarters() {
		if part := q[0] << 2; part < 4 || part > math.MaxUint64-4 {
			continue // nearer to a quarter than any number of layer 21 comes
		}
		k, rest := q.nearest()
		// q in quarters, less k, but for whole turns
		left := oracle.Less(new(big.Float).SetPrec(300).SetMantExp(new(big.Float).SetInt(q.whole()), -254), oracle.Exact(float64(k)))
		if left.Cmp(oracle.Exact(2)) > 0 {
			left = oracle.Less(left, oracle.Exact(4))
		}
		if k < 0 || k > 3 || !oracle.InForm(rest) || math.Abs(rest.Hi) > 0.5 || !oracle.Within(oracle.ExactDD(rest), left, 105) {
			t.Errorf("%x: the quarter %d and %x", q, k, rest)
		}
	}
}

func TestHalfPi(t *testing.T) {
	half := new(big.Float).SetPrec(400).SetInt(oracle.Pi(299))
	half.SetMantExp(half, -300)
	hi := oracle.Nearest(half)
	if want := (api.DD{Hi: hi, Lo: oracle.Nearest(oracle.Less(half, oracle.Exact(hi)))}); halfPi() != want {
		t.Errorf("%x, want %x", halfPi(), want)
	}
}

// The remainders are nearer than is asked for, as the remarks say.
func TestRemaindersAreNearer(t *testing.T) {
	t.Parallel()
	quarter := oracle.NewQuarter()
	for i, x := range angles.All() {
		if i%4 != 0 {
			continue
		}
		if k, v, e := Reduce(x); e != api.OK || !quarter.Within(x, k, v, 101) {
			t.Errorf("Reduce(%x) is %d, %x, error %d", x, k, v, e)
		}
	}
}
