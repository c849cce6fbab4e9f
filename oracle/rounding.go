package oracle

import (
	"math/big"

	"gnomon/api"
)

// Rounded: the pattern to which v rounds, and whether v is told closely enough for that.
func (v Real) Rounded(f api.Format) (uint64, bool) {
	low, high := v.sizes()
	b := Rounded(f, low)
	if b != Rounded(f, high) {
		return 0, false
	}
	if v.Sign < 0 {
		b = Minus(f, b)
	}
	return b, true
}

// Clear: does v lie farther than 2^-p of itself from each midpoint of the format, whatever it may be between its ends?
func (v Real) Clear(f api.Format, p int) bool {
	low, high := v.sizes()
	b := Rounded(f, low)
	if b != Rounded(f, high) || b == Infinity(f) {
		return false
	}
	bound := new(big.Rat).Mul(high, power(-p))
	above := Half(f, b)
	if above.Sub(above, high).Cmp(bound) <= 0 {
		return false
	}
	if b == 0 { // the next midpoint below lies beyond nought, farther than all of v
		return true
	}
	return low.Sub(low, Half(f, b-1)).Cmp(bound) > 0
}

// sizes: the two numbers between which v's size lies.
func (v Real) sizes() (low, high *big.Rat) {
	unit := power(v.Exp)
	return new(big.Rat).Mul(new(big.Rat).SetInt(v.Low), unit), new(big.Rat).Mul(new(big.Rat).SetInt(v.High), unit)
}
