package oracle

import (
	"math"
	"math/big"

	"gnomon/api"
)

// ExactTurn: sine, cosine or tangent of pi times x, of a finite x that is not nought, where it is an exact value, as chapter 17 says it, word by word.
func ExactTurn(fn api.Fn, x *big.Rat) (float64, bool) {
	minus := math.Copysign(0, -1)
	half := odd(times(x, 2))
	switch {
	case fn == api.SinPi && x.IsInt():
		return math.Copysign(0, float64(x.Sign())), true
	case fn == api.CosPi && x.IsInt():
		return choose(!odd(x), 1, -1), true
	case fn == api.TanPi && x.IsInt():
		return choose(!odd(x) && x.Sign() > 0 || odd(x) && x.Sign() < 0, 0, minus), true
	case fn == api.SinPi && half:
		return choose(!odd(less(x, 1, 2)), 1, -1), true
	case fn == api.CosPi && half:
		return 0, true
	case fn == api.TanPi && half:
		return choose(!odd(less(x, 1, 2)), math.Inf(1), math.Inf(-1)), true
	case fn == api.TanPi && odd(times(x, 4)):
		return choose(less(x, 1, 4).IsInt(), 1, -1), true
	}
	return 0, false
}

// odd: is x whole and odd?
func odd(x *big.Rat) bool { return x.IsInt() && x.Num().Bit(0) == 1 }

// less: x - n/d.
func less(x *big.Rat, n, d int64) *big.Rat { return new(big.Rat).Sub(x, big.NewRat(n, d)) }

func times(x *big.Rat, m int64) *big.Rat { return new(big.Rat).Mul(x, big.NewRat(m, 1)) }

func choose(truth bool, yes, no float64) float64 {
	if truth {
		return yes
	}
	return no
}

// Eighths: multiples of 1/8 from 0 on: all up to 6, and the last numbers of the format that have quarters, halves and ones, and what follows them.
func Eighths(f api.Format) []float64 {
	var out []float64
	for i := range 49 {
		out = append(out, float64(i)/8)
	}
	whole := 0x1p52 // from here on there are whole numbers alone
	if f == api.Single {
		whole = 0x1p23
	}
	for _, top := range []float64{whole / 4, whole / 2, whole, float64(2 * whole)} {
		for i := range 8 {
			step := float64(float64(i)*top) / whole / 2
			out = append(out, top-step, top+float64(2*step))
		}
	}
	return append(out, float64(4*whole), 0x1p100, 0x1p127)
}
