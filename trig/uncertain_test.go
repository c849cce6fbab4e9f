package trig

import (
	"math"
	"math/big"
	"slices"
	"testing"

	"gnomon/angles"
	"gnomon/api"
	"gnomon/kernel"
	"gnomon/oracle"
)

// No number is known whose answer isn't certain: so these are roads that are not certain of one function, and the slow one for the others.
type noSine struct{ slow }

func (noSine) sin(uint64) (uint64, bool) { return 0, false }

type noCosine struct{ slow }

func (noCosine) cos(uint64) (uint64, bool) { return 0, false }

func TestP26_4_P26_6_Uncertain(t *testing.T) {
	const sine, cosine, tangent = 0x3feaed548f090cee, 0x3fe14a280fb5068c, 0x3ff8eb245cbee3a6
	script := []Step{{1, one}, {2, one}, {3, one}, {4, one}, {4, 0}}
	for _, c := range []struct {
		road road
		want []Reply
	}{
		{slow{}, []Reply{{sine, 0, true}, {cosine, 0, true}, {tangent, 0, true}, {sine, cosine, true}, {0, one, true}}},
		{noSine{}, []Reply{{}, {cosine, 0, true}, {tangent, 0, true}, {}, {}}},
		{noCosine{}, []Reply{{sine, 0, true}, {}, {tangent, 0, true}, {}, {}}},
	} {
		l := &Lib{c.road}
		if got := l.Play(script); !slices.Equal(got, c.want) {
			t.Errorf("%T: the replies are %v", c.road, got)
		}
		both := c.want[3]
		if sin, cos, ok := l.SinCos(one); sin != both.A || cos != both.B || ok != both.OK {
			t.Errorf("%T: SinCos is %x, %x, %v", c.road, sin, cos, ok)
		}
	}
}

// The second call is asked where the first one is not certain, and only there.
func TestEither(t *testing.T) {
	times := 0
	second := func(b uint64) (uint64, bool) {
		times++
		return b + 2, b%2 == 0
	}
	sure := func(b uint64) (uint64, bool) { return b + 1, true }
	if got, ok := either(6, sure, second); got != 7 || !ok || times != 0 {
		t.Errorf("%d, %v, and the second was asked %d times", got, ok, times)
	}
	for b, certain := range map[uint64]bool{6: true, 7: false} {
		if got, ok := either(b, nowhere{}.sin, second); got != b+2 || ok != certain {
			t.Errorf("%d, %v where the first is not certain", got, ok)
		}
	}
}

// Where floats are certain, the kernel's promise alone tells that f(x) is farther than 2^-128 of itself from the midpoints: even if its error were as great as it says.
func TestP26_8_ByTheKernelsPromise(t *testing.T) {
	sure := 0
	for i, x := range angles.Crossings() {
		for fn := api.Sin; fn <= api.Tan; fn++ {
			bits, ok, _ := Quick(fn, math.Float64bits(x))
			if !ok || i%3 != 0 {
				continue
			}
			v, e, err := kernel.Eval(fn, x)
			if err != api.OK {
				continue // x is tiny
			}
			sure++
			number, _ := oracle.ExactDD(v).Rat(nil)
			if number.Abs(number); !allFar(number, e, bits&^(1<<63)) {
				t.Errorf("Quick(%d, %x) is true, but f(x) may lie anywhere within 2^%d of %x", fn, x, e, v)
			}
		}
	}
	if sure < 1000 {
		t.Errorf("only %d were looked at", sure)
	}
}

// allFar: are all y within 2^e relative of number, which rounds to the pattern b, farther than 2^-128 of themselves from b's midpoints? The greatest y is number / (1 - 2^e), the least one number / (1 + 2^e).
func allFar(number *big.Rat, e int, b uint64) bool {
	times := func(x *big.Rat, factor float64) *big.Rat { // x * (1 + factor)
		y := new(big.Rat).SetFloat64(factor)
		return y.Add(y, big.NewRat(1, 1)).Mul(y, x)
	}
	margin, hair := math.Ldexp(1, e), 0x1p-128
	above, below := oracle.Half(api.Double, b), oracle.Half(api.Double, b-1)
	return times(number, hair).Cmp(times(above, -margin)) < 0 && times(number, -hair).Cmp(times(below, margin)) > 0
}
