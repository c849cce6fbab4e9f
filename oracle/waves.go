package oracle

import (
	"math/big"
	"math/bits"

	"gnomon/api"
)

// Between are two whole numbers, and what is told lies between them.
type Between struct{ Low, High *big.Int }

// Waves: 2^p * sin t / t and 2^p * cos t, for a t of a size of at most 1, by Lambert's fraction of the tangent of half of it: with x = t/2 and y = x*x, q = tan(x)/x = 1/(1 - y/(3 - y/(5 - ..))); sin t / t = q / (1 + y*q*q), cos t = (1 - y*q*q) / (1 + y*q*q).
func Waves(t api.Dyadic, p int) (ratio, cos Between) {
	const spare = 16
	places := p + spare
	one := new(big.Int).Lsh(big.NewInt(1), uint(places))
	if len(t.Man.Mag) == 0 { // the one number of which both are told exactly
		exact := Shifted(one, -spare)
		return Between{exact, exact}, Between{exact, exact}
	}
	y := Whole(t.Man)
	y = Shifted(y.Mul(y, y), 2*t.Exp-2+places)
	q := lambert(y, one, places)
	square := new(big.Int).Mul(q, q)
	square.Rsh(square, uint(places)).Mul(square, y).Rsh(square, uint(places))
	below := new(big.Int).Add(one, square)
	above := new(big.Int).Sub(one, square)
	return between(quotient(q, below, places), spare, one), between(quotient(above, below, places), spare, one)
}

// lambert: tan(x)/x of y = x*x, which is at most 1/4, all of them counted in 2^-places, off by some units.
func lambert(y, one *big.Int, places int) *big.Int {
	levels := int64(1)
	for told := 0; told < places; levels++ { // at each level what is left out is multiplied by y and divided twice by the level's odd number
		told += 2*bits.Len64(uint64(levels)) + places - y.BitLen()
	}
	below := new(big.Int).Mul(one, big.NewInt(2*levels+1))
	for k := levels; k > 0; k-- {
		part := quotient(y, below, places)
		below.Mul(one, big.NewInt(2*k-1)).Sub(below, part)
	}
	return quotient(one, below, places)
}

func quotient(a, b *big.Int, places int) *big.Int {
	x := new(big.Int).Lsh(a, uint(places))
	return x.Quo(x, b)
}

// between: what x tells, which is off by less than 2^spare units, in units that are as many times as great, but nothing above one.
func between(x *big.Int, spare uint, one *big.Int) Between {
	low := new(big.Int).Rsh(x, spare)
	high := new(big.Int).Add(low, big.NewInt(2))
	if most := new(big.Int).Rsh(one, spare); high.Cmp(most) > 0 {
		high = most
	}
	return Between{low.Sub(low, big.NewInt(1)), high}
}

// Shifted: the floor of x * 2^n.
func Shifted(x *big.Int, n int) *big.Int {
	if n < 0 {
		return new(big.Int).Rsh(x, uint(-n))
	}
	return new(big.Int).Lsh(x, uint(n))
}

// Order: -1, 0 or 1, as x * 2^i lies below, at or above y * 2^k.
func Order(x *big.Int, i int, y *big.Int, k int) int {
	low := min(i, k)
	return Shifted(x, i-low).Cmp(Shifted(y, k-low))
}
