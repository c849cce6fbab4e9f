package oracle

import (
	"math/big"

	"gnomon/api"
)

// Real is a number that is told nearly: its sign, and two numbers, both times 2^Exp, between which its size lies.
type Real struct {
	Sign      int
	Low, High *big.Int
	Exp       int
}

// Circle tells sines, cosines and tangents of binary64 numbers to some bits.
type Circle struct {
	bits, places int
	pi           *big.Int // counted in 2^-places, rounded down
}

// Around: a circle of that many bits. The greatest numbers' multiples of pi/2 are off by some 2^1024 times as much as pi is, and their remainders may be as small as 2^-61.
func Around(bits int) Circle {
	places := bits + 1200
	return Circle{bits, places, Pi(places)}
}

// Values are sine, cosine and tangent of one number. The tangent of a pole is the empty Real.
type Values [3]Real

// Of: the value of a function, in radians or in half turns.
func (v Values) Of(fn api.Fn) Real { return v[(fn-1)%3] }

// rest is what a multiple of pi/2 leaves of an angle: its size lies between low and high, both times 2^exp.
type rest struct {
	quadrant  int
	neg       bool
	low, high *big.Int
	exp       int
}

// Radians: the values at the number of a finite pattern of Double.
func (c Circle) Radians(b uint64) Values {
	x := ValueOf(api.Double, b)
	if new(big.Rat).Abs(x).Cmp(big.NewRat(3, 4)) <= 0 {
		return c.From(0, Dyadic(x))
	}
	units := new(big.Rat).Mul(x, power(c.places))
	left := new(big.Int).Quo(units.Num(), units.Denom()) // nothing is lost: 1200 places are enough for numbers above 3/4
	twice := new(big.Int).Lsh(left, 2)
	k := twice.Add(twice, c.pi)
	k.Div(k, new(big.Int).Lsh(c.pi, 1)) // the floor of 2x/pi + 1/2
	multiple := new(big.Int).Mul(k, c.pi)
	left.Lsh(left, 1).Sub(left, multiple) // counted in 2^-(places+1), and off by less than k
	off := new(big.Int).Abs(k)
	low := new(big.Int).Sub(new(big.Int).Abs(left), off)
	high := new(big.Int).Add(new(big.Int).Abs(left), off)
	return c.values(rest{fourth(k), left.Sign() < 0, low, high, -c.places - 1})
}

// Turns: the values at pi times the number of a finite pattern of Double.
func (c Circle) Turns(b uint64) Values {
	x := ValueOf(api.Double, b)
	k := DownAt(new(big.Rat).Add(new(big.Rat).Add(x, x), big.NewRat(1, 2)), 0)
	x.Sub(x, new(big.Rat).Mul(k, big.NewRat(1, 2)))
	d := Dyadic(new(big.Rat).Abs(x))
	man := Whole(d.Man)
	low := new(big.Int).Mul(man, c.pi)
	return c.values(rest{fourth(k.Num()), x.Sign() < 0, low, new(big.Int).Add(low, man), d.Exp - c.places})
}

// From: the values at quadrant * pi/2 + t, t of a size of at most 1.
func (c Circle) From(quadrant int, t api.Dyadic) Values {
	man := Number(t.Man.Mag)
	return c.values(rest{quadrant, t.Man.Neg, man, man, t.Exp})
}

func fourth(k *big.Int) int { return int(new(big.Int).And(k, big.NewInt(3)).Int64()) }

// values: sine, cosine and tangent of a multiple of pi/2 and a rest of a size of at most 1.
func (c Circle) values(r rest) Values {
	side := 1
	if r.neg {
		side = -1
	}
	sin, cos := c.sizes(r)
	sin.Sign, cos.Sign = side*sin.High.Sign(), 1
	for range r.quadrant { // a quarter of a turn on: the cosine becomes the sine, the sine's opposite the cosine
		sin, cos = cos, sin
		cos.Sign = -cos.Sign
	}
	return Values{sin, cos, quotientOf(sin, cos, c.bits)}
}

// sizes: |sin t| and cos t, t the rest. From its low end on the sine rises and the cosine falls, by no more than t does.
func (c Circle) sizes(r rest) (sin, cos Real) {
	ratio, around := Waves(Times(r.low, r.exp), c.bits)
	off := new(big.Int).Sub(r.high, r.low)
	most := new(big.Int).Mul(r.low, ratio.High)
	most.Add(most, new(big.Int).Lsh(off, uint(c.bits)))
	sin = Real{Low: new(big.Int).Mul(r.low, ratio.Low), High: most, Exp: r.exp - c.bits}
	least := new(big.Int).Set(around.Low)
	if off.Sign() > 0 {
		least.Sub(least, Shifted(off, r.exp+c.bits)).Sub(least, big.NewInt(1))
	}
	return sin, Real{Low: least, High: around.High, Exp: -c.bits}
}

// quotientOf: a / b, but the empty Real where b is nought.
func quotientOf(a, b Real, bits int) Real {
	if b.High.Sign() == 0 {
		return Real{}
	}
	places := max(0, bits+b.High.BitLen()-a.High.BitLen())
	low := new(big.Int).Lsh(a.Low, uint(places))
	high := new(big.Int).Lsh(a.High, uint(places))
	low.Quo(low, b.High)
	high.Quo(high, b.Low)
	if high.Sign() > 0 {
		high.Add(high, big.NewInt(1))
	}
	return Real{a.Sign * b.Sign, low, high, a.Exp - b.Exp - places}
}

// Holds: does the span hold the number, all that it may be?
func (v Real) Holds(s api.Span) bool {
	lo, hi := Whole(s.Lo.Man), Whole(s.Hi.Man)
	low, high := v.Low, v.High
	if v.Sign < 0 {
		low, high = new(big.Int).Neg(v.High), new(big.Int).Neg(v.Low)
	}
	return Order(lo, s.Lo.Exp, low, v.Exp) <= 0 && Order(hi, s.Hi.Exp, high, v.Exp) >= 0
}

// Thin: is the width of s at most 2^-p times the smaller one of its ends' sizes?
func Thin(s api.Span, p int) bool {
	exp := min(s.Lo.Exp, s.Hi.Exp)
	lo := Shifted(Whole(s.Lo.Man), s.Lo.Exp-exp)
	hi := Shifted(Whole(s.Hi.Man), s.Hi.Exp-exp)
	width := new(big.Int).Sub(hi, lo)
	width.Lsh(width, uint(p))
	return width.CmpAbs(lo) <= 0 && width.CmpAbs(hi) <= 0
}

// Short: have both ends of s at most so many bits?
func Short(s api.Span, bits int) bool {
	return max(Number(s.Lo.Man.Mag).BitLen(), Number(s.Hi.Man.Mag).BitLen()) <= bits
}

// WithinOne: do both ends of s lie from -1 to 1?
func WithinOne(s api.Span) bool {
	one := big.NewInt(1)
	return Order(Number(s.Lo.Man.Mag), s.Lo.Exp, one, 0) <= 0 && Order(Number(s.Hi.Man.Mag), s.Hi.Exp, one, 0) <= 0
}

// On: do both ends of s lie on that side of nought: below it, at it, above it?
func On(s api.Span, side int) bool {
	return Whole(s.Lo.Man).Sign() == side && Whole(s.Hi.Man).Sign() == side
}
