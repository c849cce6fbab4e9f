package rules

import (
	"math"
	"slices"
	"testing"

	"gnomon/api"
	"gnomon/dd"
	"gnomon/eft"
	"gnomon/nat"
	"gnomon/oracle"
)

// words: the bits of floats, as lists. Those of a NaN are FREE: so all NaNs are one.
func words(list ...float64) ([]limbs, api.Errno) {
	var out []limbs
	for _, x := range list {
		b := math.Float64bits(x)
		if math.IsNaN(x) {
			b = math.Float64bits(math.NaN())
		}
		out = append(out, nat.Word(b))
	}
	return out, api.OK
}

// twoWords, halves: two floats that are answered, and those of a double-double.
func twoWords(x, y float64) ([]limbs, api.Errno) { return words(x, y) }

func halves(a api.DD) ([]limbs, api.Errno) { return words(a.Hi, a.Lo) }

// someFloats: fit ones, those that are not, and what is no number.
func someFloats() []float64 {
	out := []float64{0, math.Copysign(0, -1), 1, -1, 0x1p-53, -0x1p-54, 0x1.fffffffffffffp0, math.Pi, 0x1p300, -0x1p-300, 0x1p301, 0x1p-301, -0x1p540, 0x1p-540, 0x1p995, 0x1p996, -0x1p1022, 0x1p1023, 0x1p-1022, math.SmallestNonzeroFloat64, math.MaxFloat64, -math.MaxFloat64}
	return append(out, oracle.EndlessFloats()...)
}

func ofFloats(a, b float64) []call {
	return []call{
		plain("eft.TwoSum", func() ([]limbs, api.Errno) { return twoWords(eft.TwoSum(a, b)) }),
		plain("eft.FastTwoSum", func() ([]limbs, api.Errno) { return twoWords(eft.FastTwoSum(a, b)) }),
		plain("eft.Split", func() ([]limbs, api.Errno) { return twoWords(eft.Split(a)) }),
		plain("eft.TwoProd", func() ([]limbs, api.Errno) { return twoWords(eft.TwoProd(a, b)) }),
		plain("dd.Of", func() ([]limbs, api.Errno) { return halves(dd.Of(a)) }),
		plain("dd.Sum", func() ([]limbs, api.Errno) { return halves(dd.Sum(a, b)) }),
	}
}

func ofDoubleDouble(a api.DD) []call {
	return []call{
		plain("dd.Form", func() ([]limbs, api.Errno) { return []limbs{flag(dd.Form(a))}, api.OK }),
		plain("dd.Value", func() ([]limbs, api.Errno) { return fields(dd.Value(a)) }),
		plain("dd.Neg", func() ([]limbs, api.Errno) { return halves(dd.Neg(a)) }),
		plain("dd.Sqr", func() ([]limbs, api.Errno) { return halves(dd.Sqr(a)) }),
	}
}

func ofDoubleDoubles(a, b api.DD) []call {
	return []call{
		plain("dd.Cmp", func() ([]limbs, api.Errno) { return fields(number(dd.Cmp(a, b), api.OK)) }),
		plain("dd.Add", func() ([]limbs, api.Errno) { return halves(dd.Add(a, b)) }),
		plain("dd.Sub", func() ([]limbs, api.Errno) { return halves(dd.Sub(a, b)) }),
		plain("dd.Mul", func() ([]limbs, api.Errno) { return halves(dd.Mul(a, b)) }),
		plain("dd.MulFloat", func() ([]limbs, api.Errno) { return halves(dd.MulFloat(a, b.Lo)) }),
		plain("dd.Div", func() ([]limbs, api.Errno) { return halves(dd.Div(a, b)) }),
	}
}

// floatCalls: the calls of layers 19 and 20 at all pairs of some floats.
func floatCalls() []call {
	var out []call
	list := someFloats()
	for i, x := range list {
		for k, y := range list {
			a, b := api.DD{Hi: x, Lo: y}, api.DD{Hi: list[(i+k)%len(list)], Lo: list[(3*i+5*k)%len(list)]}
			out = slices.Concat(out, ofFloats(x, y), ofDoubleDouble(a), ofDoubleDoubles(a, b), ofDoubleDoubles(dd.Of(x), dd.Of(y)))
		}
	}
	return out
}

func TestFloatsKeepTheRules(t *testing.T) {
	for _, c := range floatCalls() {
		holds(t, c, nil)
	}
}

func TestFloatsAreToldAnew(t *testing.T) {
	toldAnew(t, floatCalls())
}
