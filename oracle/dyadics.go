package oracle

import (
	"math/big"
	"slices"
	"strconv"

	"gnomon/api"
)

// Times: m * 2^e in form, if it has one.
func Times(m *big.Int, e int) api.Dyadic {
	if m.Sign() == 0 {
		return api.Dyadic{}
	}
	twos := m.TrailingZeroBits()
	odd := new(big.Int).Quo(m, power(int(twos)).Num())
	return api.Dyadic{Man: Int(odd), Exp: e + int(twos)}
}

// Value: what any api.Dyadic stands for.
func Value(d api.Dyadic) *big.Rat {
	x := new(big.Rat).SetInt(Whole(d.Man))
	return x.Mul(x, power(d.Exp))
}

// Dyadic: the form of x, whose denominator is a power of two.
func Dyadic(x *big.Rat) api.Dyadic {
	return Times(x.Num(), 1-x.Denom().BitLen())
}

// DownAt, UpAt: the next multiple of 2^e at most x, and at least x.
func DownAt(x *big.Rat, e int) *big.Rat {
	y := new(big.Rat).Quo(x, power(e))
	floor := new(big.Int).Div(y.Num(), y.Denom()) // Euclid's quotient is the floor: a denominator is above nought
	return y.Mul(y.SetInt(floor), power(e))
}

func UpAt(x *big.Rat, e int) *big.Rat {
	y := DownAt(new(big.Rat).Neg(x), e)
	return y.Neg(y)
}

// Down, Up: the next number of at most p bits at most x, and at least x.
func Down(x *big.Rat, p int) *big.Rat {
	if x.Sign() == 0 {
		return new(big.Rat)
	}
	return DownAt(x, Top(x)-p+1)
}

func Up(x *big.Rat, p int) *big.Rat {
	y := Down(new(big.Rat).Neg(x), p)
	return y.Neg(y)
}

// Top: the t with 2^t <= |x| < 2^(t+1).
func Top(x *big.Rat) int {
	size := new(big.Rat).Abs(x)
	t := size.Num().BitLen() - size.Denom().BitLen()
	if size.Cmp(power(t)) < 0 {
		return t - 1
	}
	return t
}

// power: 2^e.
func power(e int) *big.Rat {
	one := big.NewInt(1)
	if e < 0 {
		return new(big.Rat).SetFrac(one, new(big.Int).Lsh(one, uint(-e)))
	}
	return new(big.Rat).SetInt(new(big.Int).Lsh(one, uint(e)))
}

// Fields: the dyadic with these fields, in form or not.
func Fields(m, e int) api.Dyadic {
	return api.Dyadic{Man: Int(big.NewInt(int64(m))), Exp: e}
}

// Long: the dyadic whose Man has that many limbs, all ones.
func Long(limbs, e int) api.Dyadic {
	return api.Dyadic{Man: api.Int{Mag: Ones(limbs)}, Exp: e}
}

// Gap: (2^(64*limbs - 1) + 1) * 2^e, whose Man has that many limbs.
func Gap(limbs, e int) api.Dyadic {
	mag := Noughts(limbs-1, 1<<63)
	mag[0] |= 1
	return api.Dyadic{Man: api.Int{Mag: mag}, Exp: e}
}

// Opposite: -d, of a d that is not nought.
func Opposite(d api.Dyadic) api.Dyadic {
	d.Man.Neg = !d.Man.Neg
	return d
}

// Same: are all fields alike? Of dyadics in form: are they one number?
func Same(a, b api.Dyadic) bool {
	return a.Exp == b.Exp && a.Man.Neg == b.Man.Neg && slices.Equal(a.Man.Mag, b.Man.Mag)
}

// MisshapenDyadics: what is not in form.
func MisshapenDyadics() []api.Dyadic {
	one := api.Int{Mag: []uint64{1}}
	out := []api.Dyadic{
		{Exp: 1}, {Exp: -1}, {Exp: 1 << 62}, {Man: api.Int{Neg: true}}, {Man: api.Int{Mag: []uint64{4}}}, {Man: api.Int{Neg: true, Mag: []uint64{2, 1}}}, {Man: api.Int{Mag: []uint64{0, 1}}},
		{Man: one, Exp: api.MaxExp + 1}, {Man: one, Exp: -api.MaxExp - 1}, {Man: one, Exp: 1<<63 - 1}, {Man: one, Exp: -1 << 63},
	}
	for _, a := range Misshapen() {
		out = append(out, api.Dyadic{Man: api.Int{Mag: a}}, api.Dyadic{Man: api.Int{Neg: true, Mag: a}, Exp: 5})
	}
	return out
}

// Tell: a dyadic as a message shows it, the middle of a long one left out.
func Tell(d api.Dyadic) string {
	man := Whole(d.Man).Text(16)
	if len(man) > 70 {
		man = man[:30] + ".." + man[len(man)-30:]
	}
	return man + "*2^" + strconv.Itoa(d.Exp) + " (" + strconv.Itoa(len(d.Man.Mag)) + " limbs)"
}

// TellSpan: a span as a message shows it.
func TellSpan(s api.Span) string {
	return "[" + Tell(s.Lo) + ", " + Tell(s.Hi) + "]"
}
