package oracle

import (
	"math"
	"math/big"

	"gnomon/api"
)

// Formats: both of them.
func Formats() []api.Format { return []api.Format{api.Single, api.Double} }

// NoFormats: numbers that stand for none.
func NoFormats() []api.Format {
	return []api.Format{0, 1, -1, 16, 31, 33, 63, 65, 96, 128, -32, -64, math.MaxInt, math.MinInt}
}

// NoPatterns: words that are no patterns of Single.
func NoPatterns() []uint64 {
	return []uint64{1 << 32, 1<<32 + 1, 0x17f800000, 0x180000000, 1 << 63, 0x3ff0000000000000, math.MaxUint64}
}

// Infinity: the pattern of plus infinity.
func Infinity(f api.Format) uint64 { return Bits(f, math.Inf(1)) }

// Minus: the pattern of the other sign.
func Minus(f api.Format, b uint64) uint64 { return b ^ 1<<(f-1) }

// Finite: patterns of both signs that have a number: the two noughts first, then those at the edges of the classes, and many between them.
func Finite(f api.Format) []uint64 {
	least := uint64(1) << 23 // the least normal one
	if f == api.Double {
		least = 1 << 52
	}
	end, one := Infinity(f), Bits(f, 1)
	sizes := []uint64{0, 1, 2, 3, 4, 5, least / 2, least/2 + 1, least - 2, least - 1, least, least + 1, least + 2, 2*least - 1, 2 * least, 2*least + 1, 3*least - 1, one - 2, one - 1, one, one + 1, one + 2, one + least - 1, one + least, one + 2*least/3, end - least - 1, end - least, end - least + 1, end - 3, end - 2, end - 1}
	for i := range uint64(100) { // far apart, by steps of the golden section
		sizes = append(sizes, i*0x9e3779b97f4a7c15%(end-1)+1)
	}
	var out []uint64
	for _, s := range sizes {
		out = append(out, s, Minus(f, s))
	}
	return out
}

// NaNs: patterns of both signs that have no number and are no infinities.
func NaNs(f api.Format) []uint64 {
	end := Infinity(f)
	quiet := end + end&-end/2
	var out []uint64
	for _, s := range []uint64{end + 1, end + 2, quiet - 1, quiet, quiet + 1, 1<<(f-1) - 1} {
		out = append(out, s, Minus(f, s))
	}
	return out
}

// Float: the library's own number of a pattern. (A binary32 number is a binary64 one too.)
func Float(f api.Format, b uint64) float64 {
	if f == api.Single {
		return float64(math.Float32frombits(uint32(b)))
	}
	return math.Float64frombits(b)
}

// Bits: the pattern of a number that the format has.
func Bits(f api.Format, x float64) uint64 {
	if f == api.Single {
		return uint64(math.Float32bits(float32(x)))
	}
	return math.Float64bits(x)
}

// ValueOf: the number of a finite pattern.
func ValueOf(f api.Format, b uint64) *big.Rat {
	return new(big.Rat).SetFloat64(Float(f, b))
}

// Rounded: the pattern to which x rounds, by the library.
func Rounded(f api.Format, x *big.Rat) uint64 {
	if f == api.Single {
		y, _ := x.Float32()
		return uint64(math.Float32bits(y))
	}
	y, _ := x.Float64()
	return math.Float64bits(y)
}

// Half: half way from a finite pattern to the next one away from nought, or from the greatest to the power of two behind it.
func Half(f api.Format, b uint64) *big.Rat {
	near := ValueOf(f, b)
	far := new(big.Rat)
	if next := b + 1; next&Infinity(f) != Infinity(f) {
		far.Set(ValueOf(f, next))
	} else {
		far.SetInt64(2) // what follows the greatest lies as far behind it as what stands ahead of it
		far.Mul(far, near).Sub(far, ValueOf(f, b-1))
	}
	near.Add(near, far)
	return near.Mul(near, big.NewRat(1, 2))
}
