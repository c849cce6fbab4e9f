package oracle

import "math/big"

// Ends: the two numbers between which v lies, the one nearer to nought first.
func (v Real) Ends() (near, far *big.Float) {
	side := Exact(float64(v.Sign))
	end := func(m *big.Int) *big.Float {
		x := lossless(roomy().SetInt(m))
		return Product(side, x.SetMantExp(x, v.Exp))
	}
	return end(v.Low), end(v.High)
}

// Near: is x within 2^-e relative of v, whatever v may be between its ends? The numbers of which it is have none between them of which it is not: so the ends tell it of all.
func (v Real) Near(x *big.Float, e int) bool {
	near, far := v.Ends()
	return Within(x, near, e) && Within(x, far, e)
}
