package dd_test

import (
	"math"
	"testing"

	"gnomon/api"
	"gnomon/dd"
	"gnomon/oracle"
)

func TestP20_1_Edges(t *testing.T) {
	least, most := math.SmallestNonzeroFloat64, math.MaxFloat64
	nought, inf, nan := math.Copysign(0, -1), math.Inf(1), math.NaN()
	for _, c := range []struct {
		a    api.DD
		form bool
	}{
		{pair(1, u), true}, {pair(1, -u), false}, {pair(1, 3*u/2), false}, {pair(0, 1), false}, {pair(inf, 0), false},
		{pair(1, -u/2), true}, {pair(1, math.Nextafter(-u/2, -1)), false}, {pair(1, math.Nextafter(u, 1)), false}, {pair(1, math.Nextafter(u, 0)), true},
		{pair(1+2*u, u), false}, {pair(1+2*u, -u), false}, {pair(1+2*u, math.Nextafter(u, 0)), true}, {pair(1+4*u, u), true}, {pair(1+4*u, -u), true},
		{pair(-1, -u), true}, {pair(-1, u), false}, {pair(-1, u/2), true}, {pair(2-2*u, u), false}, {pair(2-2*u, -u), false}, {pair(2-4*u, u), true},
		{pair(0, 0), true}, {pair(nought, 0), true}, {pair(0, nought), true}, {pair(nought, nought), true}, {pair(0, least), false}, {pair(nought, -least), false}, {pair(1, 0), true}, {pair(1, nought), true}, {pair(1, least), true}, {pair(1, -1), false}, {pair(1, 1), false},
		{pair(least, 0), true}, {pair(least, least), false}, {pair(least, -least), false}, {pair(0x1p-1022, least), false}, {pair(0x1p-1021, least), true}, {pair(0x1p-1021, -least), false}, {pair(0x1.0000000000001p-1021, least), false},
		{pair(most, 0), true}, {pair(most, 0x1p969), true}, {pair(most, 0x1p970), false}, {pair(most, math.Nextafter(0x1p970, 0)), true}, {pair(-most, -0x1p970), false}, {pair(most, -0x1p970), false}, {pair(most, most), false},
		{pair(-inf, 0), false}, {pair(0, inf), false}, {pair(1, inf), false}, {pair(1, -inf), false}, {pair(inf, inf), false}, {pair(inf, -inf), false}, {pair(inf, 1), false}, {pair(nan, 0), false}, {pair(0, nan), false}, {pair(1, nan), false}, {pair(nan, nan), false}, {pair(inf, nan), false},
	} {
		if dd.Form(c.a) != c.form {
			t.Errorf("Form(%x) is %v", c.a, !c.form)
		}
	}
}

func TestP20_1_Form(t *testing.T) {
	formed := 0
	for _, a := range finitePairs() {
		want := oracle.InForm(a)
		if dd.Form(a) != want {
			t.Errorf("Form(%x) is %v", a, !want)
		}
		if want {
			formed++
		}
	}
	if others := len(finitePairs()) - formed; formed < 1000 || others < 1000 {
		t.Errorf("%d pairs in form and %d others have been tried", formed, others)
	}
	for _, a := range endlessPairs() {
		if dd.Form(a) {
			t.Errorf("Form(%x) is true", a)
		}
	}
}

// valued looks at one number.
func valued(t *testing.T, a api.DD, want api.Dyadic) {
	t.Helper()
	if got, e := dd.Value(a); e != api.OK || !oracle.Same(got, want) {
		t.Errorf("Value(%x) is %s, error %d; want %s", a, oracle.Tell(got), e, oracle.Tell(want))
	}
}

func formless(t *testing.T, a api.DD) {
	t.Helper()
	if got, e := dd.Value(a); e != api.ErrForm || !oracle.Same(got, api.Dyadic{}) {
		t.Errorf("Value(%x) is %s, error %d", a, oracle.Tell(got), e)
	}
}

func TestP20_2_Examples(t *testing.T) {
	valued(t, pair(1, u), oracle.Fields(9007199254740993, -53))
	valued(t, pair(0, 0), api.Dyadic{})
	valued(t, pair(math.Copysign(0, -1), math.Copysign(0, -1)), api.Dyadic{})
	valued(t, pair(-3, 0), oracle.Fields(-3, 0))
	valued(t, pair(1, 0x1p-128), api.Dyadic{Man: api.Int{Mag: []uint64{1, 0, 1}}, Exp: -128})
	valued(t, pair(math.SmallestNonzeroFloat64, 0), oracle.Fields(1, -1074))
	formless(t, pair(0, 1))
	formless(t, pair(1, -u))
}

func TestP20_2_Value(t *testing.T) {
	for _, a := range finitePairs() {
		if !oracle.InForm(a) {
			formless(t, a)
			continue
		}
		exact, _ := oracle.ExactDD(a).Rat(nil)
		valued(t, a, oracle.Dyadic(exact))
	}
	for _, a := range endlessPairs() {
		formless(t, a)
	}
}
