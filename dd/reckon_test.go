package dd_test

import (
	"math"
	"math/big"
	"testing"

	"gnomon/api"
	"gnomon/dd"
	"gnomon/oracle"
)

// op is a call of two double-doubles: how near its answer must be, and the number to which it must be so near.
type op struct {
	name  string
	near  int
	run   func(a, b api.DD) api.DD
	exact func(x, y *big.Float) *big.Float
}

var (
	add = op{"Add", 103, dd.Add, oracle.Plus}
	sub = op{"Sub", 103, dd.Sub, oracle.Less}
	mul = op{"Mul", 102, dd.Mul, oracle.Product}
)

// holds looks at one answer.
func (o op) holds(t *testing.T, a, b api.DD) {
	t.Helper()
	near(t, o.name, a, b, o.run(a, b), o.exact(oracle.ExactDD(a), oracle.ExactDD(b)), o.near)
}

// near looks whether got is in form and within 2^-e relative of want.
func near(t *testing.T, name string, a, b, got api.DD, want *big.Float, e int) {
	t.Helper()
	if !oracle.InForm(got) || !oracle.Within(oracle.ExactDD(got), want, e) {
		t.Errorf("%s(%x, %x) is %x", name, a, b, got)
	}
}

func multiplies(t *testing.T, a api.DD, x float64) {
	t.Helper()
	near(t, "MulFloat", a, pair(x, 0), dd.MulFloat(a, x), oracle.Product(oracle.ExactDD(a), oracle.Exact(x)), 102)
}

func squares(t *testing.T, a api.DD) {
	t.Helper()
	x := oracle.ExactDD(a)
	near(t, "Sqr", a, a, dd.Sqr(a), oracle.Product(x, x), 102)
}

// divides looks whether the quotient is near: it is, where its product with b, which is exact, is as near to a.
func divides(t *testing.T, a, b api.DD) {
	t.Helper()
	got := dd.Div(a, b)
	if !oracle.InForm(got) || !oracle.Within(oracle.Product(oracle.ExactDD(got), oracle.ExactDD(b)), oracle.ExactDD(a), 100) {
		t.Errorf("Div(%x, %x) is %x", a, b, got)
	}
}

// all looks at all that may be asked of two fit double-doubles.
func all(t *testing.T, a, b api.DD) {
	t.Helper()
	add.holds(t, a, b)
	sub.holds(t, a, b)
	mul.holds(t, a, b)
	multiplies(t, a, b.Hi)
	if b.Hi != 0 {
		divides(t, a, b)
	}
}

func TestP20_7_Examples(t *testing.T) {
	mul.holds(t, pair(3, 0), pair(5, 0))
	if got := dd.Div(pair(1, 0), pair(3, 0)); got.Hi != 6004799503160661*0x1p-54 {
		t.Errorf("Div(1, 3) is %x", got)
	}
	divides(t, pair(1, 0), pair(3, 0))
}

func TestP20_7_FitPairs(t *testing.T) {
	t.Parallel()
	for i, a := range fitPairs() {
		squares(t, a)
		for _, b := range partners(i, 12) {
			all(t, a, b)
		}
	}
}

func TestP20_7_Cancelling(t *testing.T) {
	t.Parallel()
	for _, a := range fitPairs() {
		for _, b := range cancelling(a) {
			add.holds(t, a, b)
			sub.holds(t, minus(b), a)
		}
	}
}

// cancels looks whether nothing is left of a sum and of a difference.
func cancels(t *testing.T, a api.DD) {
	t.Helper()
	for _, got := range []api.DD{dd.Add(a, minus(a)), dd.Add(minus(a), a), dd.Sub(a, a)} {
		if got != pair(0, 0) {
			t.Errorf("%x less itself is %x", a, got)
		}
	}
}

func TestP20_7_CancelsWholly(t *testing.T) {
	for _, a := range fitPairs() {
		cancels(t, a)
	}
}

// Where the His cancel, what is left is the sum of two Los, far apart in size: nothing of it may be lost.
func TestP20_7_CancelsInHi(t *testing.T) {
	for _, exp := range []int{-300, -1, 0, 299} {
		for _, m := range someSignificands() {
			hi := math.Ldexp(m, exp)
			gap := hi - math.Nextafter(hi, 0)
			for distance := range 110 {
				a, b := pair(hi, gap*0x1.5555555555555p-3), pair(-hi, math.Ldexp(gap, -distance)*-0x1.921fb54442d18p-3)
				add.holds(t, a, b)
				sub.holds(t, a, minus(b))
			}
		}
	}
}

func TestP20_7_Noughts(t *testing.T) {
	t.Parallel()
	minusNought := math.Copysign(0, -1)
	for _, nought := range []api.DD{pair(0, 0), pair(minusNought, 0), pair(0, minusNought), pair(minusNought, minusNought)} {
		squares(t, nought)
		for _, a := range append(fitPairs(), nought) {
			all(t, a, nought)
			all(t, nought, a)
			if got := dd.Mul(a, nought); got != pair(0, 0) {
				t.Errorf("%x times nought is %x", a, got)
			}
		}
	}
}

// The least and the greatest fit numbers, whose products and quotients are not fit themselves, with Los at most and at least.
func TestP20_7_Ends(t *testing.T) {
	t.Parallel()
	list := fit(beside([]float64{0x1p-300, 0x1.0000000000001p-300, 0x1.fffffffffffffp-300, 0x1.fffffffffffffp299, 0x1p300, 1}))
	for _, a := range list {
		squares(t, a)
		for i, b := range list {
			if i%3 == 0 {
				all(t, a, b)
			}
		}
	}
}

func TestP20_7_Ruleless(t *testing.T) {
	t.Parallel()
	list := ruleless(60000)
	for i := 1; i < len(list); i++ {
		a, b := list[i-1], list[i]
		all(t, a, b)
		squares(t, a)
		steps := math.Ilogb(a.Hi) - math.Ilogb(b.Hi) // to the size of a
		all(t, a, pair(math.Ldexp(b.Hi, steps), math.Ldexp(b.Lo, steps)))
	}
}

// A sum that comes as far off as any that is known: by 2.25 times 2^-106 with the way of reckoning that loses least.
func TestP20_7_HardSum(t *testing.T) {
	a := pair(9007199254740991, -9007199254740991*0x1p-54)
	b := pair(-9007199254740987*0x1p-1, -9007199254740991*0x1p-56)
	if !oracle.InForm(a) || !oracle.InForm(b) {
		t.Fatalf("not in form")
	}
	add.holds(t, a, b)
	add.holds(t, b, a)
	sub.holds(t, a, minus(b))
}
