package kernel

import (
	"math/big"
	"testing"

	"gnomon/angles"
	"gnomon/api"
	"gnomon/dd"
	"gnomon/oracle"
)

// told: the values at the exact number of a double-double.
func told(circle oracle.Circle, a api.DD) oracle.Values {
	x, _ := oracle.ExactDD(a).Rat(nil)
	return circle.From(0, oracle.Dyadic(x))
}

// The answers are nearer than is asked for, as the remarks say.
func TestAnglesAreNearer(t *testing.T) {
	t.Parallel()
	circle := oracle.Around(200)
	for _, a := range angles.Remainders() {
		v, e := split(a)
		if e != api.OK {
			t.Fatalf("split(%x): error %d", a, e)
		}
		values := told(circle, a)
		near := func(fn api.Fn, got api.DD, bits int) {
			t.Helper()
			if !values.Of(fn).Near(oracle.ExactDD(got), bits) {
				t.Errorf("function %d of %x is %x", fn, a, got)
			}
		}
		near(api.Sin, v.sin(), 82)
		near(api.Cos, v.cos(), 83)
		near(api.Tan, v.tan(), 81)
		// a number is as near to cot v as its product with tan v is to 1
		low, high := values.Of(api.Tan).Ends()
		for _, tan := range []*big.Float{low, high} {
			if !oracle.Within(oracle.Product(tan, oracle.ExactDD(v.cot())), oracle.Exact(1), 81) {
				t.Errorf("the cotangent of %x is %x", a, v.cot())
			}
		}
	}
}

// Small angles by themselves: up to a hair above 1/128.
func TestSmallWavesAreNearer(t *testing.T) {
	t.Parallel()
	circle := oracle.Around(200)
	for _, a := range angles.Remainders() {
		if a.Hi > 0x1.0000001p-7 || a.Hi < -0x1.0000001p-7 {
			continue
		}
		small, values := wavesOf(a), told(circle, a)
		if !values.Of(api.Sin).Near(oracle.ExactDD(small.sin), 85) || !values.Of(api.Cos).Near(oracle.ExactDD(small.cos), 83) {
			t.Errorf("of %x: %x", a, small)
		}
	}
}

// Angles so small that their squares are not fit are taken for nought, and others are not.
func TestSmallestWaves(t *testing.T) {
	nought := waves{api.DD{}, dd.Of(1)}
	for _, x := range []float64{0, 0x1p-1074, 0x1p-1000, 0x1p-300, 0x1p-150, 0x1.fffffffffffffp-141} {
		if wavesOf(dd.Of(x)) != nought || wavesOf(dd.Of(-x)) != nought {
			t.Errorf("%x is not taken for nought", x)
		}
	}
	if v := wavesOf(dd.Of(-0x1p-140)); v.sin.Hi != -0x1p-140 || v.cos.Hi != 1 || v.cos.Lo != -0x1p-281 {
		t.Errorf("of -2^-140: %x", v)
	}
}

// The worst of both: what Eval may say of its error by the reduction's promise and the kernel's own errors.
func TestMarginHolds(t *testing.T) {
	v := 51.0 / 64
	circle := oracle.Around(200)
	values := told(circle, dd.Of(v))
	sin, _ := values.Of(api.Sin).Ends()
	cos, _ := values.Of(api.Cos).Ends()
	worst := v / (oracle.Nearest(sin) * oracle.Nearest(cos)) // 2v/sin 2v
	if total := worst*0x1p-80 + 0x1p-81; worst > 1.6 || total > 0x1p-78 {
		t.Errorf("the worst is %v, in all %x", worst, total)
	}
}
