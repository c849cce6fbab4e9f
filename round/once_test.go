package round_test

import (
	"math/big"
	"testing"

	"gnomon/api"
	"gnomon/oracle"
	"gnomon/round"
)

// quotientIs: where a/b goes, with all signs of the two.
func quotientIs(t *testing.T, f api.Format, a, b api.Dyadic, want uint64) {
	t.Helper()
	call := "Quotient of " + tell(a) + " by " + tell(b)
	of(round.Quotient(f, a, b)).is(t, call, f, want, api.OK)
	of(round.Quotient(f, minus(a), minus(b))).is(t, call+", both turned round", f, want, api.OK)
	of(round.Quotient(f, minus(a), b)).is(t, call+", the first turned round", f, oracle.Minus(f, want), api.OK)
	of(round.Quotient(f, a, minus(b))).is(t, call+", the second turned round", f, oracle.Minus(f, want), api.OK)
}

func TestP8_4_Examples(t *testing.T) {
	for _, c := range []struct {
		f    api.Format
		a, b api.Dyadic
		want uint64
	}{
		{double, n(1, 0), n(3, 0), 0x3fd5555555555555}, {single, n(1, 0), n(3, 0), 0x3eaaaaab}, {double, n(1, 1), n(3, 0), 0x3fe5555555555555},
		{double, n(9007199254740993, 0), n(1, 0), 0x4340000000000000}, {double, n(27021597764222979, 0), n(3, 0), 0x4340000000000000}, {double, n(27021597764222985, 0), n(3, 0), 0x4340000000000002},
		{double, n(27021597764222981, 0), n(3, 0), 0x4340000000000001}, {double, n(27021597764222977, 0), n(3, 0), 0x4340000000000000}, {double, n(27021597764222983, 0), n(3, 0), 0x4340000000000001},
		{double, n(1, -1074), n(1, 1), 0}, {double, n(3, -1074), n(1, 1), 2}, {double, n(1, -1074), n(3, 0), 0}, {double, n(1, -1073), n(3, 0), 1}, {single, n(1, -149), n(1, 1), 0}, {single, n(5, -149), n(3, 0), 2},
		{double, n(1<<54-1, 970), n(1, 0), 0x7ff0000000000000}, {single, n(1<<25-1, 103), n(1, 0), 0x7f800000}, {double, n(1, maxExp), n(1, maxExp), 0x3ff0000000000000}, {single, n(1, -maxExp), n(1, 1-maxExp), 0x3f000000},
		{double, n(1, -maxExp), n(3, maxExp), 0}, {single, n(1, maxExp), n(3, -maxExp), 0x7f800000}, {double, n(1, maxExp), n(3, -maxExp), 0x7ff0000000000000},
	} {
		quotientIs(t, c.f, c.a, c.b, c.want)
	}
	for _, f := range oracle.Formats() {
		for _, b := range []api.Dyadic{n(3, 0), n(-3, 0), n(-1, maxExp), n(-1, -maxExp), minus(long(4096, 0))} {
			of(round.Quotient(f, api.Dyadic{}, b)).is(t, "Quotient of nought", f, 0, api.OK)
			of(round.Quotient(f, api.Dyadic{Man: api.Int{Mag: []uint64{}}}, b)).is(t, "Quotient of an empty nought", f, 0, api.OK)
		}
	}
}

// samples: numbers in form, short and of some limbs.
func samples() []api.Dyadic {
	out := []api.Dyadic{n(1, 0), n(3, 5), n(7, -9), n(1<<53-1, 0), n(1<<24+1, 100), n(1<<62+1, -200)}
	for k := range 12 {
		mag := oracle.Mixed(k%4+1, uint64(k))
		mag[0] |= 1
		out = append(out, api.Dyadic{Man: api.Int{Mag: mag}, Exp: 90*k - 600})
	}
	return append(out, long(2, -128), gap(3, -191))
}

func TestP8_4_ByTheLibrary(t *testing.T) {
	for _, f := range oracle.Formats() {
		for _, a := range samples() {
			for _, b := range samples() {
				want := new(big.Rat).Quo(value(a), value(b))
				quotientIs(t, f, a, b, oracle.Rounded(f, want))
			}
		}
	}
}

// upper: the pattern above the midpoint behind the pattern b, and the one to which the midpoint itself goes.
func upper(b uint64) (above, tie uint64) {
	return b + 1, b + b&1
}

// plus: d + k units of its last bit.
func plus(d api.Dyadic, k int64) api.Dyadic {
	m := oracle.Whole(d.Man)
	return oracle.Times(m.Add(m, big.NewInt(k)), d.Exp)
}

// times: a*b, by the library.
func times(a, b api.Dyadic) api.Dyadic {
	return oracle.Times(new(big.Int).Mul(oracle.Whole(a.Man), oracle.Whole(b.Man)), a.Exp+b.Exp)
}

// positive: patterns above nought, at their edges.
func positive(f api.Format) []uint64 {
	var out []uint64
	for i, b := range oracle.Finite(f) {
		if i%2 == 0 {
			out = append(out, b)
		}
	}
	return out
}

// A dividend of a midpoint times the divisor, and one unit beside it: a tie, and a hair on either side of one.
func TestP8_4_AboutTies(t *testing.T) {
	for _, f := range oracle.Formats() {
		for _, b := range positive(f) {
			mid := inForm(oracle.Half(f, b))
			above, tie := upper(b)
			for _, divisor := range []api.Dyadic{n(1, 0), n(3, 7), long(1, 0), gap(20, -3)} {
				product := times(mid, divisor)
				quotientIs(t, f, product, divisor, tie)
				if len(divisor.Man.Mag) > 1 {
					quotientIs(t, f, plus(product, 1), divisor, above)
					quotientIs(t, f, plus(product, -1), divisor, b)
				}
			}
		}
	}
}

func TestP8_4_OfLongOnes(t *testing.T) {
	for _, f := range oracle.Formats() {
		one := oracle.Bits(f, 1)
		quotientIs(t, f, long(4096, 0), long(4096, 0), one)
		quotientIs(t, f, long(4096, 0), gap(4096, 0), oracle.Bits(f, 2))
		quotientIs(t, f, gap(4096, 0), long(4096, 0), oracle.Bits(f, 0.5))
		quotientIs(t, f, n(1, 0), long(4096, -262144), one)
		quotientIs(t, f, long(4096, -262144), n(1, 0), one)
		quotientIs(t, f, long(4096, maxExp), long(4096, -maxExp), oracle.Infinity(f))
		quotientIs(t, f, long(4096, -maxExp), long(4096, maxExp), 0)
	}
	mid := n(1<<53+1, 0)
	product := times(mid, long(4095, 0))
	quotientIs(t, double, product, long(4095, 0), 0x4340000000000000)
	quotientIs(t, double, plus(product, 1), long(4095, 0), 0x4340000000000001)
	quotientIs(t, double, plus(product, -1), long(4095, 0), 0x4340000000000000)
	quotientIs(t, double, plus(times(n(1<<53+3, 0), gap(4095, 0)), -1), gap(4095, 0), 0x4340000000000001)
}

func TestP8_4_Wrong(t *testing.T) {
	tooLong, nought := long(4097, 0), api.Dyadic{}
	for _, f := range oracle.Formats() {
		for _, a := range []api.Dyadic{n(1, 0), nought, n(-3, maxExp), tooLong} {
			of(round.Quotient(f, a, nought)).fails(t, "Quotient by nought", f, api.ErrZero)
			of(round.Quotient(f, a, tooLong)).fails(t, "Quotient by what is too long", f, api.ErrLimit)
			of(round.Quotient(f, a, gap(4097, 3))).fails(t, "Quotient by what is too long", f, api.ErrLimit)
		}
		of(round.Quotient(f, tooLong, n(3, 0))).fails(t, "Quotient of what is too long", f, api.ErrLimit)
		of(round.Quotient(f, long(8192, 0), n(3, 0))).fails(t, "Quotient of what is too long", f, api.ErrLimit)
		for _, d := range oracle.MisshapenDyadics() {
			for _, other := range []api.Dyadic{d, n(3, 0), nought, tooLong} {
				of(round.Quotient(f, d, other)).fails(t, "Quotient of what has no form", f, api.ErrForm)
				of(round.Quotient(f, other, d)).fails(t, "Quotient by what has no form", f, api.ErrForm)
			}
		}
	}
	for _, f := range oracle.NoFormats() {
		for _, d := range []api.Dyadic{n(1, 0), n(2, 0), nought, tooLong} {
			of(round.Quotient(f, d, d)).fails(t, "Quotient", f, api.ErrArg)
			of(round.Quotient(f, d, n(3, 0))).fails(t, "Quotient", f, api.ErrArg)
		}
	}
}

func rootIs(t *testing.T, f api.Format, a api.Dyadic, want uint64) {
	t.Helper()
	of(round.Root(f, a)).is(t, "Root of "+tell(a), f, want, api.OK)
}

func TestP8_5_Examples(t *testing.T) {
	for _, c := range []struct {
		f    api.Format
		a    api.Dyadic
		want uint64
	}{
		{double, n(1, 1), 0x3ff6a09e667f3bcd}, {single, n(1, 1), 0x3fb504f3}, {double, n(9, -2), 0x3ff8000000000000}, {single, n(9, -2), 0x3fc00000}, {double, n(1, 0), 0x3ff0000000000000}, {double, n(1, -1), 0x3fe6a09e667f3bcd},
		{double, n(1, -2148), 1}, {double, n(1, -2150), 0}, {double, n(9, -2152), 1}, {double, n(9, -2150), 2}, {double, n(3, -2151), 1}, {double, n(1, -2151), 0}, {double, n(1, -2149), 1}, {single, n(1, -298), 1}, {single, n(1, -300), 0}, {single, n(9, -300), 2}, {single, n(3, -301), 1},
		{single, n(281475010265089, 0), 0x4b800000}, {single, n(140737505132545, 1), 0x4b800001}, {single, n(281475010265087, 0), 0x4b800000},
		{double, n(1, 2046), 0x7fe0000000000000}, {double, n(1, 2048), 0x7ff0000000000000}, {single, n(1, 254), 0x7f000000}, {single, n(1, 256), 0x7f800000},
		{double, n(1, -maxExp), 0}, {double, n(1, 1-maxExp), 0}, {double, n(1, maxExp), 0x7ff0000000000000}, {single, n(3, maxExp-1), 0x7f800000}, {double, n(0, 0), 0}, {single, api.Dyadic{Man: api.Int{Mag: []uint64{}}}, 0},
	} {
		rootIs(t, c.f, c.a, c.want)
	}
}

// A midpoint's square and what lies a hair beside it: a tie, and a hair on either side of one.
func TestP8_5_AboutTies(t *testing.T) {
	for _, f := range oracle.Formats() {
		for _, b := range positive(f) {
			mid := inForm(oracle.Half(f, b))
			square := times(mid, mid)
			above, tie := upper(b)
			rootIs(t, f, square, tie)
			for _, k := range []uint{1, 2, 63, 64, 1000} {
				finer := api.Dyadic{Man: oracle.Int(new(big.Int).Lsh(oracle.Whole(square.Man), k)), Exp: square.Exp - int(k)}
				rootIs(t, f, plus(finer, 1), above)
				rootIs(t, f, plus(finer, -1), b)
			}
		}
	}
}

// The root of a pattern's own square is the pattern.
func TestP8_5_OfSquares(t *testing.T) {
	for _, f := range oracle.Formats() {
		for _, b := range positive(f) {
			d := inForm(oracle.ValueOf(f, b))
			rootIs(t, f, times(d, d), b)
		}
	}
}

// The answer's cell, squared, holds the number.
func TestP8_5_ByCells(t *testing.T) {
	for _, f := range oracle.Formats() {
		for _, a := range samples() {
			for _, top := range []int{0, 1, a.Exp / 8, a.Exp/8 - 151} {
				a.Exp = top - oracle.Whole(a.Man).BitLen()
				b, fault := round.Root(f, a)
				lo, hi := cell(f, b)
				below, above := lo.Mul(lo, lo).Cmp(value(a)), hi.Mul(hi, hi).Cmp(value(a))
				if fault != api.OK || below > 0 || above < 0 || b%2 == 1 && (below == 0 || above == 0) {
					t.Errorf("Root(%d, %s) = %#x, error %d", f, tell(a), b, fault)
				}
			}
		}
	}
}

func TestP8_5_OfLongOnes(t *testing.T) {
	for _, f := range oracle.Formats() {
		rootIs(t, f, long(4096, -262144), oracle.Bits(f, 1))
		rootIs(t, f, gap(4096, -262143), oracle.Bits(f, 1))
		rootIs(t, f, gap(4096, -262142), rootOfTwo(f))
		rootIs(t, f, long(4096, maxExp), oracle.Infinity(f))
		rootIs(t, f, long(4096, -maxExp), 0)
	}
	mid := n(1<<53+1, 0)
	square := times(mid, mid)
	finer := api.Dyadic{Man: oracle.Int(new(big.Int).Lsh(oracle.Whole(square.Man), 261900)), Exp: -261900}
	rootIs(t, double, plus(finer, 1), 0x4340000000000001)
	rootIs(t, double, plus(finer, -1), 0x4340000000000000)
	rootIs(t, double, plus(finer, 0), 0x4340000000000000)
}

func rootOfTwo(f api.Format) uint64 {
	if f == single {
		return 0x3fb504f3
	}
	return 0x3ff6a09e667f3bcd
}

func TestP8_5_Wrong(t *testing.T) {
	for _, f := range oracle.Formats() {
		for _, a := range []api.Dyadic{n(-1, 0), n(-1, -maxExp), n(-3, maxExp), minus(long(4096, 0)), minus(long(4097, 0)), minus(long(8192, 0))} {
			of(round.Root(f, a)).fails(t, "Root below nought", f, api.ErrSign)
		}
		for _, a := range []api.Dyadic{long(4097, 0), gap(4097, -3), long(8192, maxExp)} {
			of(round.Root(f, a)).fails(t, "Root of what is too long", f, api.ErrLimit)
		}
		for _, a := range oracle.MisshapenDyadics() {
			of(round.Root(f, a)).fails(t, "Root of what has no form", f, api.ErrForm)
		}
	}
	for _, f := range oracle.NoFormats() {
		for _, a := range []api.Dyadic{n(1, 0), n(2, 0), n(-1, 0), n(0, 0), long(4097, 0)} {
			of(round.Root(f, a)).fails(t, "Root", f, api.ErrArg)
		}
	}
}
