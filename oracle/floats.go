package oracle

import (
	"math"
	"math/big"

	"gnomon/api"
)

// exactBits is more than a product of two floats of any sizes has, and than one of two double-doubles of everyday size.
const exactBits = 4400

// Exact: a finite float as a number of the library, with room for sums and products that lose nothing.
func Exact(x float64) *big.Float { return roomy().SetFloat64(x) }

// ExactDD: the number Hi + Lo of a double-double whose halves are finite.
func ExactDD(a api.DD) *big.Float { return Plus(Exact(a.Hi), Exact(a.Lo)) }

// Plus, Less, Product: x + y, x - y and x * y, not rounded.
func Plus(x, y *big.Float) *big.Float { return lossless(roomy().Add(x, y)) }

func Less(x, y *big.Float) *big.Float { return lossless(roomy().Sub(x, y)) }

func Product(x, y *big.Float) *big.Float { return lossless(roomy().Mul(x, y)) }

func roomy() *big.Float { return new(big.Float).SetPrec(exactBits) }

func lossless(x *big.Float) *big.Float {
	if x.Acc() != big.Exact {
		panic("a sum or product with more bits than there is room for")
	}
	return x
}

// Nearest: x rounded to nearest, by the library's whole numbers.
func Nearest(x *big.Float) float64 {
	y, _ := x.Float64()
	return y
}

// Within: is x within 2^-e relative of y?
func Within(x, y *big.Float, e int) bool {
	off := Less(x, y)
	off.SetMantExp(off.Abs(off), e)
	return off.Cmp(roomy().Abs(y)) <= 0
}

// IsFinite: is x neither an infinity nor a NaN?
func IsFinite(x float64) bool { return !math.IsInf(x, 0) && !math.IsNaN(x) }

// InForm: is a double-double in form, as DOC.md says it?
func InForm(a api.DD) bool {
	return IsFinite(a.Hi) && IsFinite(a.Lo) && Nearest(ExactDD(a)) == a.Hi
}

// Significands: numbers from 1 on and below 2: of one bit, of few, of 26, of 27 (half way between two of 26) and what stands beside them, of 52 and of 53.
func Significands() []float64 {
	return []float64{
		1, 0x1.8p0, 0x1.4p0, 0x1.cp0,
		0x1.0000008p0, 0x1.ffffff8p0, 0x1.5555558p0, // of 26 bits
		0x1.0000004p0, 0x1.ffffffcp0, 0x1.000000cp0, 0x1.aaaaaacp0, // of 27
		0x1.0000003ffffffp0, 0x1.0000004000001p0, 0x1.ffffffbffffffp0, 0x1.ffffffc000001p0, 0x1.0000002p0, 0x1.ffffffep0,
		0x1.0000000000001p0, 0x1.0000000000002p0, 0x1.0000000000003p0, 0x1.ffffffffffffep0, 0x1.fffffffffffffp0,
		0x1.8000000000001p0, 0x1.7ffffffffffffp0, 0x1.5555555555555p0, 0x1.aaaaaaaaaaaaap0, 0x1.921fb54442d18p0, 0x1.5bf0a8b145769p0, 0x1.6a09e667f3bcdp0,
	}
}

// EndlessFloats: what is no number.
func EndlessFloats() []float64 {
	return []float64{math.Inf(1), math.Inf(-1), math.NaN(), math.Float64frombits(0x7ff0000000000001), math.Float64frombits(math.MaxUint64)}
}

// Words: so many words without a rule, the same ones each time.
func Words(n int) []uint64 {
	s := uint64(20)
	out := make([]uint64, n)
	for i := range out {
		s = s*6364136223846793005 + 1442695040888963407
		out[i] = s ^ s>>29
	}
	return out
}

// FloatOf: a float without a rule made of a word: of either sign, from 2^low on and below 2^high by size.
func FloatOf(word uint64, low, high int) float64 {
	x := math.Float64frombits(0x3ff<<52 | word>>12)
	place := word * 0x9e3779b97f4a7c15 >> 20
	if place&1 != 0 {
		x = -x
	}
	return math.Ldexp(x, low+int(place>>1%uint64(high-low)))
}
