package kernel_test

import (
	"math"
	"math/big"
	"testing"

	"gnomon/angles"
	"gnomon/api"
	"gnomon/dd"
	"gnomon/dyadic"
	"gnomon/kernel"
	"gnomon/oracle"
	"gnomon/span"
	"gnomon/taylor"
)

// face is one of the calls of a remainder, with the function that it tells and the bits that it must hold.
type face struct {
	name string
	call func(api.DD) (api.DD, api.Errno)
	fn   api.Fn
	bits int
}

func faces() []face {
	return []face{{"Sin", kernel.Sin, api.Sin, 75}, {"Cos", kernel.Cos, api.Cos, 75}, {"Tan", kernel.Tan, api.Tan, 73}}
}

// number: the exact number of a double-double in form.
func number(a api.DD) api.Dyadic {
	x, _ := oracle.ExactDD(a).Rat(nil)
	return oracle.Dyadic(x)
}

// good looks whether the three functions of a remainder are what P24.1 asks for.
func good(t *testing.T, circle oracle.Circle, a api.DD) {
	t.Helper()
	values := circle.From(0, number(a))
	for _, f := range faces() {
		v, e := f.call(a)
		if e != api.OK || !oracle.InForm(v) || !values.Of(f.fn).Near(oracle.ExactDD(v), f.bits) {
			t.Errorf("%s(%x) is %x, error %d", f.name, a, v, e)
		}
	}
}

func TestP24_1_AllRows(t *testing.T) {
	t.Parallel()
	circle := oracle.Around(200)
	for _, a := range angles.Remainders() {
		good(t, circle, a)
	}
}

// Numbers without a rule, with Los without one.
func TestP24_1_Ruleless(t *testing.T) {
	t.Parallel()
	circle := oracle.Around(200)
	tried := 0
	for i, w := range oracle.Words(20000) {
		a := api.DD{Hi: float64(w>>11) * 0x1p-53}
		if i%2 == 0 {
			a.Hi = oracle.FloatOf(w, -70, 0)
		}
		a.Lo = a.Hi * oracle.FloatOf(w*w, -60, -53)
		if math.Abs(a.Hi) <= 13.0/16 && a.Hi != 0 && oracle.InForm(a) {
			good(t, circle, a)
			tried++
		}
	}
	if tried < 10000 {
		t.Errorf("only %d were tried", tried)
	}
}

// within: is v within 2^-bits relative of every number of a span that does not hold nought?
func within(v api.DD, s api.Span, bits int) bool {
	x, e := dd.Value(v)
	if e != api.OK {
		return false
	}
	for _, end := range []api.Dyadic{s.Lo, s.Hi} {
		off, _ := dyadic.Sub(x, end)
		allowed, _ := dyadic.Scale(end, -bits)
		off.Man.Neg, allowed.Man.Neg = false, false
		if order, _ := dyadic.Cmp(off, allowed); order > 0 {
			return false
		}
	}
	return true
}

func TestP24_1_BySpans(t *testing.T) {
	t.Parallel()
	for i, a := range angles.Remainders() {
		if i%7 != 0 {
			continue
		}
		sin, _ := taylor.Sin(number(a), 200)
		cos, _ := taylor.Cos(number(a), 200)
		tan, _ := span.Quo(sin, cos, 200)
		for k, s := range []api.Span{sin, cos, tan} {
			f := faces()[k]
			if v, e := f.call(a); e != api.OK || !within(v, s, f.bits) {
				t.Errorf("%s(%x) is %x, error %d", f.name, a, v, e)
			}
		}
	}
}

// The chapter's sine of 1/2, told in decimals.
func TestP24_1_Example(t *testing.T) {
	v, e := kernel.Sin(api.DD{Hi: 0.5})
	want, _ := new(big.Float).SetPrec(200).SetString("0.479425538604203000273287935215571388")
	if e != api.OK || math.Float64bits(v.Hi) != 0x3fdeaee8744b05f0 || !oracle.InForm(v) || !oracle.Within(oracle.ExactDD(v), want, 75) {
		t.Errorf("Sin(1/2) is %x, error %d", v, e)
	}
}

func TestP24_1_Noughts(t *testing.T) {
	minus := math.Copysign(0, -1)
	for _, a := range []api.DD{{}, {Hi: minus}, {Lo: minus}, {Hi: minus, Lo: minus}} {
		for i, want := range []float64{0, 1, 0} {
			f := faces()[i]
			if v, e := f.call(a); v.Hi != want || v.Lo != 0 || e != api.OK {
				t.Errorf("%s(%v) is %x, error %d", f.name, a, v, e)
			}
		}
	}
}

// A value that is a hair too far off is not taken for good by either way of telling it.
func TestOtherValuesAreNotGood(t *testing.T) {
	circle := oracle.Around(200)
	for _, a := range []api.DD{{Hi: 0.5}, {Hi: -0x1p-70}, {Hi: 13.0 / 16, Lo: -0x1p-56}} {
		sin, _ := taylor.Sin(number(a), 200)
		values := circle.From(0, number(a))
		v, _ := kernel.Sin(a)
		for _, off := range []float64{0x1.1p-75, -0x1.1p-75} {
			w := api.DD{Hi: v.Hi, Lo: v.Lo + float64(off*v.Hi)}
			if values.Of(api.Sin).Near(oracle.ExactDD(w), 75) || within(w, sin, 75) {
				t.Errorf("%x is taken for the sine of %x", w, a)
			}
		}
	}
}
