package dyadic_test

import (
	"math"
	"math/big"
	"testing"

	"gnomon/api"
	"gnomon/dyadic"
	"gnomon/num"
	"gnomon/oracle"
)

const (
	maxExp = api.MaxExp
	most   = math.MaxInt
	lowest = math.MinInt
)

var (
	value, inForm, tell = oracle.Value, oracle.Dyadic, oracle.Tell
	n, long, gap, minus = oracle.Fields, oracle.Long, oracle.Gap, oracle.Opposite
)

type answer struct {
	got api.Dyadic
	e   api.Errno
}

func of(got api.Dyadic, e api.Errno) answer { return answer{got, e} }

func (a answer) is(t *testing.T, call string, want api.Dyadic, e api.Errno) {
	t.Helper()
	if a.e != e || !oracle.Same(a.got, want) {
		t.Errorf("%s = %s, error %d, want %s, error %d", call, tell(a.got), a.e, tell(want), e)
	}
}

// fails: the error, and nothing beside it.
func (a answer) fails(t *testing.T, call string, e api.Errno) {
	t.Helper()
	a.is(t, call, api.Dyadic{}, e)
}

// samples: numbers in form, short and of some limbs, near 1 and farther away.
func samples() []api.Dyadic {
	out := []api.Dyadic{{}}
	exps := []int{0, -1, 2, -64, 63, -130, 200}
	for i, m := range []int{1, 3, 5, 7, 11, 2047, most} {
		for k := range 3 {
			d := n(m, exps[(i+3*k)%len(exps)])
			out = append(out, d, minus(d))
		}
	}
	for k := range 5 {
		mag := oracle.Mixed(k+1, uint64(k))
		mag[0] |= 1
		d := api.Dyadic{Man: api.Int{Mag: mag}, Exp: exps[k] - 64*k}
		out = append(out, d, minus(d), long(k+1, exps[k+1]), gap(k+1, -32*k))
	}
	return out
}

func misshapen() []api.Dyadic { return oracle.MisshapenDyadics() }

func TestP5_1_Of(t *testing.T) {
	for _, c := range []struct{ n, m, e int }{
		{0, 0, 0}, {12, 3, 2}, {1, 1, 0}, {-1, -1, 0}, {-12, -3, 2}, {most, most, 0}, {1 << 62, 1, 62}, {lowest, -1, 63}, {lowest + 1, lowest + 1, 0},
	} {
		of(dyadic.Of(c.n), api.OK).is(t, "Of", n(c.m, c.e), api.OK)
	}
}

func TestP5_1_Form(t *testing.T) {
	formed := append(samples(), n(-1, maxExp), n(1, -maxExp), long(8192, maxExp), minus(long(8192, -maxExp)), api.Dyadic{Man: api.Int{Mag: []uint64{}}})
	for _, d := range formed {
		if !dyadic.Form(d) {
			t.Errorf("Form of %s is false", tell(d))
		}
	}
	for _, d := range append(misshapen(), n(4, 0), n(0, 1), n(1, maxExp+1), n(-1, -maxExp-1), long(8193, 0)) {
		if dyadic.Form(d) {
			t.Errorf("Form of %s is true", tell(d))
		}
	}
}

func TestP5_2_Make(t *testing.T) {
	for _, c := range []struct{ m, e, man, exp int }{
		{-6, -1, -3, 0}, {8, -maxExp - 3, 1, -maxExp}, {-8, -maxExp - 3, -1, -maxExp}, {1, maxExp, 1, maxExp}, {6, maxExp - 1, 3, maxExp}, {7, -maxExp, 7, -maxExp}, {lowest, -63, -1, 0}, {96, 0, 3, 5},
	} {
		of(dyadic.Make(num.Of(c.m), c.e)).is(t, "Make", n(c.man, c.exp), api.OK)
	}
	for _, e := range []int{0, -5, maxExp + 1, -maxExp - 1, most, lowest} {
		of(dyadic.Make(api.Int{}, e)).is(t, "Make of nought", api.Dyadic{}, api.OK)
	}
	for _, d := range samples() {
		for _, k := range []int{0, 1, 63, 64, 100} {
			m, _ := num.Shl(d.Man, k)
			of(dyadic.Make(m, d.Exp-k)).is(t, "Make", d, api.OK)
		}
	}
	half := api.Int{Neg: true, Mag: oracle.Noughts(8191, 1<<63)}
	of(dyadic.Make(half, -maxExp-524287)).is(t, "Make of the longest power of two", n(-1, -maxExp), api.OK)
	of(dyadic.Make(half, maxExp-524287)).is(t, "Make of the longest power of two", n(-1, maxExp), api.OK)
	of(dyadic.Make(half, maxExp-524286)).fails(t, "Make, one above", api.ErrLimit)
	of(dyadic.Make(half, -maxExp-524288)).fails(t, "Make, one below", api.ErrLimit)
	of(dyadic.Make(oracle.Int(oracle.Number(oracle.Ones(8192))), 0)).is(t, "Make of the greatest natural", long(8192, 0), api.OK)
}

func TestP5_2_MakeWrong(t *testing.T) {
	for _, c := range []struct{ m, e int }{{8, most}, {8, lowest}, {1, most}, {-1, lowest}, {4, -maxExp - 3}, {2, maxExp}, {1, maxExp + 1}, {1, -maxExp - 1}, {lowest, most}} {
		of(dyadic.Make(num.Of(c.m), c.e)).fails(t, "Make", api.ErrLimit)
	}
	for _, m := range append(oracle.Misshapen(), nil) {
		for _, e := range []int{0, most, lowest} {
			of(dyadic.Make(api.Int{Neg: true, Mag: m}, e)).fails(t, "Make", api.ErrForm)
			if m != nil {
				of(dyadic.Make(api.Int{Mag: m}, e)).fails(t, "Make", api.ErrForm)
			}
		}
	}
}

func compares(t *testing.T, a, b api.Dyadic, want int) {
	t.Helper()
	for _, c := range []struct {
		a, b api.Dyadic
		want int
	}{{a, b, want}, {b, a, -want}} {
		if got, e := dyadic.Cmp(c.a, c.b); got != c.want || e != api.OK {
			t.Errorf("Cmp(%s, %s) = %d, %d, want %d", tell(c.a), tell(c.b), got, e, c.want)
		}
	}
}

func TestP5_3_Cmp(t *testing.T) {
	for _, a := range samples() {
		for _, b := range samples() {
			compares(t, a, b, value(a).Cmp(value(b)))
		}
	}
	nearly := long(8192, maxExp)
	nearly.Man.Mag[0] -= 2
	compares(t, n(1, 1000000), n(3, 0), 1)
	compares(t, n(-1, 4), n(1, -9), -1)
	compares(t, n(1, maxExp), n(1, -maxExp), 1)
	compares(t, n(-1, maxExp), n(-1, -maxExp), -1)
	compares(t, long(8192, maxExp), nearly, 1)
	compares(t, minus(long(8192, maxExp)), minus(nearly), -1)
	compares(t, long(8192, 0), n(1, 524288), -1)
	compares(t, gap(8192, -maxExp), n(1, 524287-maxExp), 1)
	compares(t, minus(gap(8192, maxExp-524287)), n(-1, maxExp), -1)
	compares(t, n(0, 0), n(-1, -maxExp), 1)
	compares(t, api.Dyadic{Man: api.Int{Mag: []uint64{}}}, api.Dyadic{}, 0)
}

func TestP5_4_Top(t *testing.T) {
	for _, d := range samples()[1:] {
		if got, e := dyadic.Top(d); got != oracle.Top(value(d)) || e != api.OK {
			t.Errorf("Top(%s) = %d, %d", tell(d), got, e)
		}
	}
	for _, c := range []struct {
		d    api.Dyadic
		want int
		e    api.Errno
	}{
		{n(1, 0), 0, api.OK}, {n(-5, -1), 1, api.OK}, {n(1, -maxExp), -maxExp, api.OK}, {n(1, maxExp), maxExp, api.OK}, {long(8192, maxExp), maxExp + 524287, api.OK}, {n(0, 0), 0, api.ErrZero}, {api.Dyadic{Man: api.Int{Mag: []uint64{}}}, 0, api.ErrZero},
	} {
		if got, e := dyadic.Top(c.d); got != c.want || e != c.e {
			t.Errorf("Top(%s) = %d, %d, want %d, %d", tell(c.d), got, e, c.want, c.e)
		}
	}
}

func TestP5_3_and_4_Wrong(t *testing.T) {
	for _, d := range misshapen() {
		for _, other := range []api.Dyadic{d, n(3, 2), {}} {
			got, e := dyadic.Cmp(d, other)
			got2, e2 := dyadic.Cmp(other, d)
			if got != 0 || got2 != 0 || e != api.ErrForm || e2 != api.ErrForm {
				t.Errorf("Cmp with %s: %d, %d, %d, %d", tell(d), got, e, got2, e2)
			}
		}
		if got, e := dyadic.Top(d); got != 0 || e != api.ErrForm {
			t.Errorf("Top(%s) = %d, %d", tell(d), got, e)
		}
	}
}

func TestP5_5_and_6_ByTheLibrary(t *testing.T) {
	for _, a := range samples() {
		of(dyadic.Neg(a)).is(t, "Neg", inForm(new(big.Rat).Neg(value(a))), api.OK)
		for _, b := range samples() {
			of(dyadic.Mul(a, b)).is(t, "Mul", inForm(new(big.Rat).Mul(value(a), value(b))), api.OK)
			of(dyadic.Add(a, b)).is(t, "Add", inForm(new(big.Rat).Add(value(a), value(b))), api.OK)
			of(dyadic.Sub(a, b)).is(t, "Sub", inForm(new(big.Rat).Sub(value(a), value(b))), api.OK)
		}
	}
}

func TestP5_5_MulAtTheLimits(t *testing.T) {
	of(dyadic.Mul(n(3, -1), n(-5, 3))).is(t, "Mul", n(-15, 2), api.OK)
	of(dyadic.Mul(n(3, maxExp-1), n(5, 1))).is(t, "Mul to MaxExp", n(15, maxExp), api.OK)
	of(dyadic.Mul(n(3, maxExp), n(5, 1))).fails(t, "Mul, one above", api.ErrLimit)
	of(dyadic.Mul(n(3, 1-maxExp), n(5, -1))).is(t, "Mul to -MaxExp", n(15, -maxExp), api.OK)
	of(dyadic.Mul(n(3, -maxExp), n(-5, -1))).fails(t, "Mul, one below", api.ErrLimit)
	of(dyadic.Mul(n(1, maxExp), n(1, maxExp))).fails(t, "Mul, far above", api.ErrLimit)
	of(dyadic.Mul(n(1, -maxExp), n(1, -maxExp))).fails(t, "Mul, far below", api.ErrLimit)
	of(dyadic.Mul(n(1, -maxExp), n(-1, maxExp))).is(t, "Mul of both ends", n(-1, 0), api.OK)
	for _, d := range []api.Dyadic{n(-5, maxExp), n(5, -maxExp), long(8192, maxExp), {}} {
		of(dyadic.Mul(d, n(0, 0))).is(t, "Mul by nought", api.Dyadic{}, api.OK)
		of(dyadic.Mul(n(0, 0), d)).is(t, "Mul of nought", api.Dyadic{}, api.OK)
	}
	of(dyadic.Mul(long(8192, 7), n(-1, 3))).is(t, "Mul by a power of two", minus(long(8192, 10)), api.OK)
	of(dyadic.Mul(long(8192, 0), n(3, 0))).fails(t, "Mul, too long", api.ErrLimit)
	of(dyadic.Mul(long(4096, 0), long(4097, 0))).fails(t, "Mul, a limb too long", api.ErrLimit)
	square := new(big.Int).Mul(oracle.Number(oracle.Ones(4096)), oracle.Number(oracle.Ones(4096)))
	of(dyadic.Mul(long(4096, 1), long(4096, 1))).is(t, "Mul, just so long", oracle.Times(square, 2), api.OK)
	of(dyadic.Neg(long(8192, maxExp))).is(t, "Neg", minus(long(8192, maxExp)), api.OK)
	of(dyadic.Neg(n(0, 0))).is(t, "Neg of nought", api.Dyadic{}, api.OK)
}

// sumIs: a + b by Add, and by Sub.
func sumIs(t *testing.T, call string, a, b, want api.Dyadic, e api.Errno) {
	t.Helper()
	of(dyadic.Add(a, b)).is(t, call+", Add", want, e)
	of(dyadic.Add(b, a)).is(t, call+", Add turned round", want, e)
	if len(b.Man.Mag) > 0 {
		b = minus(b)
	}
	of(dyadic.Sub(a, b)).is(t, call+", Sub", want, e)
}

func TestP5_6_SumsAtTheLimits(t *testing.T) {
	sumIs(t, "1/2 + 1/2", n(1, -1), n(1, -1), n(1, 0), api.OK)
	sumIs(t, "3 + 1/4", n(3, 0), n(1, -2), n(13, -2), api.OK)
	sumIs(t, "1 - 1", n(1, 0), n(-1, 0), api.Dyadic{}, api.OK)
	sumIs(t, "exponents apart", n(1, 1000000), n(1, -1000000), api.Dyadic{}, api.ErrLimit)
	sumIs(t, "exponents as far apart as can be", n(1, maxExp), n(-1, -maxExp), api.Dyadic{}, api.ErrLimit)
	for _, d := range []api.Dyadic{n(1, 1000000), n(-3, maxExp), n(3, -maxExp), long(8192, maxExp), {}} {
		sumIs(t, "with nought", d, api.Dyadic{}, d, api.OK)
	}
	of(dyadic.Sub(api.Dyadic{}, n(3, maxExp))).is(t, "0 - d", n(-3, maxExp), api.OK)
	of(dyadic.Sub(n(7, -9), n(7, -9))).is(t, "d - d", api.Dyadic{}, api.OK)
	of(dyadic.Sub(long(8192, maxExp), long(8192, maxExp))).is(t, "d - d", api.Dyadic{}, api.OK)
	sumIs(t, "2^524287 + 1", n(1, 524287), n(1, 0), gap(8192, 0), api.OK)
	sumIs(t, "2^524287 + 1 at the lowest exponent", n(1, 524287-maxExp), n(1, -maxExp), gap(8192, -maxExp), api.OK)
	sumIs(t, "2^524288 + 1: the first is too long", n(1, 524288), n(1, 0), api.Dyadic{}, api.ErrLimit)
	sumIs(t, "2^524288 - 1: the first is too long, the sum is not", n(1, 524288), n(-1, 0), api.Dyadic{}, api.ErrLimit)
	sumIs(t, "2^524288 - (2^524288 - 1)", n(1, 524288), minus(long(8192, 0)), api.Dyadic{}, api.ErrLimit)
	sumIs(t, "(2^524288 - 1) + 1: the sum is too long", long(8192, 0), n(1, 0), api.Dyadic{}, api.ErrLimit)
	sumIs(t, "(2^524288 - 1) - 1", long(8192, 0), n(-1, 0), oracle.Times(new(big.Int).Sub(oracle.Number(oracle.Ones(8192)), big.NewInt(1)), 0), api.OK)
	sumIs(t, "2^MaxExp + 2^MaxExp: beyond the exponents", n(1, maxExp), n(1, maxExp), api.Dyadic{}, api.ErrLimit)
	sumIs(t, "3*2^MaxExp - 2^MaxExp: beyond the exponents", n(3, maxExp), n(-1, maxExp), api.Dyadic{}, api.ErrLimit)
	sumIs(t, "3*2^MaxExp + 2^(MaxExp-1)", n(3, maxExp), n(1, maxExp-1), n(7, maxExp-1), api.OK)
	sumIs(t, "2^-MaxExp + 2^-MaxExp", n(1, -maxExp), n(1, -maxExp), n(1, 1-maxExp), api.OK)
	sumIs(t, "3*2^-MaxExp - 2^(1-MaxExp)", n(3, -maxExp), n(-1, 1-maxExp), n(1, -maxExp), api.OK)
}

type binary = func(a, b api.Dyadic) (api.Dyadic, api.Errno)

func TestP5_5_and_6_Wrong(t *testing.T) {
	for _, d := range misshapen() {
		of(dyadic.Neg(d)).fails(t, "Neg", api.ErrForm)
		for _, f := range []binary{dyadic.Add, dyadic.Sub, dyadic.Mul} {
			for _, other := range []api.Dyadic{d, n(3, 2), {}, long(8192, maxExp)} {
				of(f(d, other)).fails(t, "a not in form", api.ErrForm)
				of(f(other, d)).fails(t, "b not in form", api.ErrForm)
			}
		}
	}
}

func TestP5_7_Scale(t *testing.T) {
	of(dyadic.Scale(n(3, 4), -4)).is(t, "Scale", n(3, 0), api.OK)
	for _, d := range samples() {
		for _, k := range []int{0, 1, -1, 300, -300} {
			want := d
			if len(d.Man.Mag) > 0 {
				want.Exp += k
			}
			of(dyadic.Scale(d, k)).is(t, "Scale", want, api.OK)
		}
	}
	for _, k := range []int{0, 1, maxExp + 1, most, lowest} {
		of(dyadic.Scale(n(0, 0), k)).is(t, "Scale of nought", api.Dyadic{}, api.OK)
	}
	of(dyadic.Scale(n(-1, maxExp), -2*maxExp)).is(t, "Scale, all the way down", n(-1, -maxExp), api.OK)
	of(dyadic.Scale(n(-1, -maxExp), 2*maxExp)).is(t, "Scale, all the way up", n(-1, maxExp), api.OK)
	for _, c := range []struct{ e, n int }{
		{maxExp, -2*maxExp - 1}, {-maxExp, 2*maxExp + 1}, {0, most}, {maxExp, most}, {-maxExp, most}, {9, lowest}, {-maxExp, lowest}, {maxExp, lowest}, {maxExp, 1}, {-maxExp, -1},
	} {
		of(dyadic.Scale(n(1, c.e), c.n)).fails(t, "Scale", api.ErrLimit)
	}
	for _, d := range misshapen() {
		for _, k := range []int{0, 1, most, lowest} {
			of(dyadic.Scale(d, k)).fails(t, "Scale", api.ErrForm)
		}
	}
}
