package sintable_test

import (
	"math"
	"math/big"
	"testing"

	"gnomon/api"
	"gnomon/binary"
	"gnomon/dd"
	"gnomon/dyadic"
	"gnomon/oracle"
	"gnomon/round"
	"gnomon/sintable"
	"gnomon/span"
	"gnomon/taylor"
)

// same: are both halves alike, bit by bit?
func same(a, b api.DD) bool {
	return math.Float64bits(a.Hi) == math.Float64bits(b.Hi) && math.Float64bits(a.Lo) == math.Float64bits(b.Lo)
}

func rowIs(t *testing.T, j int, sin, cos api.DD, e api.Errno) {
	t.Helper()
	if s, c, err := sintable.Row(j); !same(s, sin) || !same(c, cos) || err != e {
		t.Errorf("Row(%d) is %x, %x, error %d; want %x, %x, error %d", j, s, c, err, sin, cos, e)
	}
}

func TestP23_2_Examples(t *testing.T) {
	rowIs(t, 0, api.DD{}, api.DD{Hi: 1}, api.OK)
	rowIs(t, 53, api.DD{}, api.DD{}, api.ErrArg)
	rowIs(t, -1, api.DD{}, api.DD{}, api.ErrArg)
	sin, cos, e := sintable.Row(32)
	if e != api.OK || math.Float64bits(sin.Hi) != 0x3fdeaee8744b05f0 || math.Float64bits(cos.Hi) != 0x3fec1528065b7d50 || sin.Hi != 0.479425538604203 || cos.Hi != 0.8775825618903728 {
		t.Errorf("Row(32) is %x, %x, error %d", sin, cos, e)
	}
}

// decided: the one float to which all of a span rounds.
func decided(t *testing.T, s api.Span) float64 {
	t.Helper()
	b, ok, e := round.Decide(api.Double, s)
	if !ok || e != api.OK {
		t.Fatalf("%s does not round to one pattern, error %d", oracle.TellSpan(s), e)
	}
	return math.Float64frombits(b)
}

// roundedTwice: a span rounded, and what is missing rounded again.
func roundedTwice(t *testing.T, s api.Span) api.DD {
	t.Helper()
	hi := decided(t, s)
	number, _ := binary.Value(api.Double, math.Float64bits(hi))
	point, _ := span.Point(number)
	rest, _ := span.Sub(s, point, 1000)
	return api.DD{Hi: hi, Lo: decided(t, rest)}
}

func TestP23_2_BySpans(t *testing.T) {
	for j := range api.MaxRow + 1 {
		angle, _ := dyadic.Scale(dyadic.Of(j), -6)
		sin, _ := taylor.Sin(angle, 300)
		cos, _ := taylor.Cos(angle, 300)
		rowIs(t, j, roundedTwice(t, sin), roundedTwice(t, cos), api.OK)
	}
}

// nearestTwice: the same of what is told by whole numbers.
func nearestTwice(t *testing.T, v oracle.Real) api.DD {
	t.Helper()
	twice := func(x *big.Float) api.DD {
		hi := oracle.Nearest(x)
		return api.DD{Hi: hi, Lo: oracle.Nearest(oracle.Less(x, oracle.Exact(hi)))}
	}
	near, far := v.Ends()
	if !same(twice(near), twice(far)) {
		t.Fatalf("%v is not told closely enough", v)
	}
	return twice(near)
}

func TestP23_2_ByWholeNumbers(t *testing.T) {
	circle := oracle.Around(400)
	for j := range api.MaxRow + 1 {
		v := circle.From(0, oracle.Times(big.NewInt(int64(j)), -6))
		rowIs(t, j, nearestTwice(t, v.Of(api.Sin)), nearestTwice(t, v.Of(api.Cos)), api.OK)
	}
}

func TestP23_2_InForm(t *testing.T) {
	for j := range api.MaxRow + 1 {
		sin, cos, e := sintable.Row(j)
		if e != api.OK || !dd.Form(sin) || !dd.Form(cos) {
			t.Errorf("Row(%d) is %x, %x, error %d", j, sin, cos, e)
		}
		for _, x := range []float64{sin.Hi, sin.Lo, cos.Hi, cos.Lo} {
			if x == 0 && math.Signbit(x) {
				t.Errorf("Row(%d) has a nought below nought: %x, %x", j, sin, cos)
			}
		}
	}
}

func TestP23_2_Errors(t *testing.T) {
	for _, j := range []int{-1, -2, -53, math.MinInt, math.MinInt + 1, api.MaxRow + 1, 54, 64, 106, 1 << 32, 1<<32 + 1, 1 << 62, math.MaxInt} {
		rowIs(t, j, api.DD{}, api.DD{}, api.ErrArg)
	}
}
