package oracle

import (
	"math/big"
	"math/bits"
)

// Pi: the floor of 2^p * pi, by the arithmetic-geometric mean (Gauss, Salamin and Brent).
func Pi(p int) *big.Int { return floorAt(mean(uint(p)+128), p) }

// TwoByPi: the floor of 2^p * 2/pi.
func TwoByPi(p int) *big.Int {
	x := mean(uint(p) + 128)
	two := new(big.Float).SetPrec(x.Prec()).SetInt64(2)
	return floorAt(x.Quo(two, x), p)
}

// mean: pi to some bits less than prec.
func mean(prec uint) *big.Float {
	number := func(x float64) *big.Float { return new(big.Float).SetPrec(prec).SetFloat64(x) }
	a, b, t, step := number(1), number(0.5), number(0.25), number(1)
	b.Sqrt(b)
	for range bits.Len(prec) { // each step doubles the bits that are right
		middle := number(0)
		middle.Add(a, b).Quo(middle, number(2))
		b.Mul(a, b).Sqrt(b)
		a.Sub(a, middle).Mul(a, a).Mul(a, step)
		t.Sub(t, a)
		a = middle
		step.Mul(step, number(2))
	}
	a.Add(a, b).Mul(a, a)
	return a.Quo(a, t.Mul(t, number(4)))
}

// floorAt: the floor of 2^p * x, for an x with hardly a hundred of its last bits wrong at most. It panics where these could tell another floor.
func floorAt(x *big.Float, p int) *big.Int {
	const spare = 20
	near, _ := new(big.Float).SetMantExp(x, p+spare).Int(nil)
	below := new(big.Int).Rsh(new(big.Int).Sub(near, big.NewInt(1)), spare)
	above := new(big.Int).Rsh(near.Add(near, big.NewInt(1)), spare)
	if below.Cmp(above) != 0 {
		panic("oracle: a floor that is not certain")
	}
	return below
}

// Arctan: two whole numbers between which 2^p * arctan(1/n) lies, by Euler's series: the first term is n / (n*n + 1), and each is the one ahead of it times 2k / ((2k + 1) * (n*n + 1)), k counting from 1.
func Arctan(n, p int) (low, high *big.Int) {
	base := big.NewInt(int64(n))
	base.Mul(base, base).Add(base, big.NewInt(1))
	term := new(big.Int).Lsh(big.NewInt(int64(n)), uint(p))
	term.Quo(term, base)
	low = new(big.Int)
	k := int64(1)
	for ; term.Sign() > 0; k++ {
		low.Add(low, term)
		term.Mul(term, big.NewInt(2*k)).Quo(term, new(big.Int).Mul(base, big.NewInt(2*k+1)))
	}
	// Each term is less than 2 too small, and those that are left out come to less than 2 in all.
	return low, new(big.Int).Add(low, big.NewInt(2*k))
}
