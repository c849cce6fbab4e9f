package oracle

import (
	"math/big"

	"gnomon/api"
)

// Quarter is pi/2, by which it tells remainders, with so many places that the multiples up to the greatest float are off by less than 2^-370.
type Quarter struct{ half *big.Float }

func NewQuarter() Quarter {
	const places = 1400
	x := roomy().SetInt(Pi(places - 1))
	return Quarter{x.SetMantExp(x, -places)}
}

// Eighths: n*pi/4, rounded to nearest.
func (p Quarter) Eighths(n int) float64 {
	x := Product(roomy().SetInt64(int64(n)), p.half)
	return Nearest(x.SetMantExp(x, -1))
}

// Remainder: k mod 4 and x - k*pi/2 of a finite x, for the k whose remainder is nearest to t. With t nought that is the least remainder.
func (p Quarter) Remainder(x float64, t *big.Float) (int, *big.Float) {
	k := rounded(roomy().Quo(Less(Exact(x), t), p.half))
	return fourth(k), Less(Exact(x), Product(roomy().SetInt(k), p.half))
}

// rounded: the whole number nearest to x.
func rounded(x *big.Float) *big.Int {
	half := Exact(0.5)
	if x.Sign() < 0 {
		half.Neg(half)
	}
	k, _ := half.Add(x, half).Int(nil)
	return k
}

// Good: is this a good remainder of a finite x, as DOC.md says it?
func (p Quarter) Good(x float64, quadrant int, t api.DD) bool { return p.Within(x, quadrant, t, 80) }

// Within: is it one that is even within 2^-e relative?
func (p Quarter) Within(x float64, quadrant int, t api.DD, e int) bool {
	if !InForm(t) {
		return false
	}
	number := ExactDD(t)
	q, want := p.Remainder(x, number)
	return q == quadrant && roomy().Abs(number).Cmp(Exact(51.0/64)) <= 0 && Within(number, want, e)
}
