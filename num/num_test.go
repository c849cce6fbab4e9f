package num_test

import (
	"math"
	"math/big"
	"slices"
	"testing"

	"gnomon/api"
	"gnomon/num"
	"gnomon/oracle"
)

var whole, inForm = oracle.Whole, oracle.Int

type answer struct {
	got api.Int
	e   api.Errno
}

func of(got api.Int, e api.Errno) answer { return answer{got, e} }

func (a answer) is(t *testing.T, call string, want api.Int, e api.Errno) {
	t.Helper()
	if a.e != e || a.got.Neg != want.Neg || !slices.Equal(a.got.Mag, want.Mag) {
		t.Errorf("%s = %v %.90v (%d limbs), error %d, want %v %.90v (%d limbs), error %d", call, a.got.Neg, a.got.Mag, len(a.got.Mag), a.e, want.Neg, want.Mag, len(want.Mag), e)
	}
}

// fails: the error, and nothing beside it.
func (a answer) fails(t *testing.T, call string, e api.Errno) {
	t.Helper()
	a.is(t, call, api.Int{}, e)
}

// greatest: the whole number of the greatest size.
func greatest(neg bool) api.Int { return api.Int{Neg: neg, Mag: oracle.Ones(api.MaxLimbs)} }

// misshapen: whole numbers that are not in form.
func misshapen() []api.Int {
	out := []api.Int{{Neg: true}, {Neg: true, Mag: []uint64{}}}
	for _, a := range oracle.Misshapen() {
		out = append(out, api.Int{Mag: a}, api.Int{Neg: true, Mag: a})
	}
	return out
}

// samples: whole numbers in form: small ones, those about words' edges, and long ones.
func samples() []api.Int {
	var out []api.Int
	for _, n := range []int{0, 1, 2, 3, 5, 7, 8, 1 << 62, math.MaxInt, math.MinInt} {
		out = append(out, num.Of(n), num.Of(-n-1))
	}
	for n := range 8 {
		mag := oracle.Mixed(n+1, uint64(n))
		out = append(out, api.Int{Mag: mag}, api.Int{Neg: true, Mag: mag}, api.Int{Neg: n%2 == 0, Mag: oracle.Ones(n + 1)}, api.Int{Neg: n%2 == 1, Mag: oracle.Noughts(n, 1)})
	}
	return out
}

func TestP4_1_Of(t *testing.T) {
	of(num.Of(0), api.OK).is(t, "Of(0)", api.Int{}, api.OK)
	of(num.Of(math.MinInt), api.OK).is(t, "Of(the least int)", api.Int{Neg: true, Mag: []uint64{1 << 63}}, api.OK)
	of(num.Of(math.MaxInt), api.OK).is(t, "Of(the greatest int)", api.Int{Mag: []uint64{1<<63 - 1}}, api.OK)
	of(num.Of(-1), api.OK).is(t, "Of(-1)", api.Int{Neg: true, Mag: []uint64{1}}, api.OK)
	of(num.Of(12), api.OK).is(t, "Of(12)", api.Int{Mag: []uint64{12}}, api.OK)
}

func TestP4_1_FormAndSign(t *testing.T) {
	for _, x := range append(samples(), api.Int{Mag: []uint64{}}, greatest(false), greatest(true)) {
		if !num.Form(x) {
			t.Errorf("Form of %v %.90v is false", x.Neg, x.Mag)
		}
	}
	for _, x := range misshapen() {
		if num.Form(x) {
			t.Errorf("Form of %v %.90v (%d limbs) is true", x.Neg, x.Mag, len(x.Mag))
		}
	}
	for _, x := range append(append(samples(), misshapen()...), greatest(true)) {
		if got, want := num.Sign(x), whole(x).Sign(); got != want {
			t.Errorf("Sign of %v %.90v is %d, want %d", x.Neg, x.Mag, got, want)
		}
	}
}

func TestP4_2_Small(t *testing.T) {
	for _, n := range []int{0, 1, -1, 77, -77, math.MaxInt, math.MinInt, math.MinInt + 1} {
		if got, e := num.Small(num.Of(n)); got != n || e != api.OK {
			t.Errorf("Small(%d) = %d, %d", n, got, e)
		}
	}
	limit := []api.Int{{Mag: []uint64{1 << 63}}, {Neg: true, Mag: []uint64{1<<63 + 1}}, {Mag: []uint64{3, 1}}, {Neg: true, Mag: []uint64{0, 1}}, greatest(true)}
	for _, x := range limit {
		if got, e := num.Small(x); got != 0 || e != api.ErrLimit {
			t.Errorf("Small of %v %.90v = %d, %d, want 0, ErrLimit", x.Neg, x.Mag, got, e)
		}
	}
	for _, x := range misshapen() {
		if got, e := num.Small(x); got != 0 || e != api.ErrForm {
			t.Errorf("Small of %v %.90v = %d, %d, want 0, ErrForm", x.Neg, x.Mag, got, e)
		}
	}
}

func TestP4_3_Cmp(t *testing.T) {
	for _, x := range append(samples(), greatest(true)) {
		for _, y := range append(samples(), greatest(true)) {
			if got, e := num.Cmp(x, y); got != whole(x).Cmp(whole(y)) || e != api.OK {
				t.Errorf("Cmp(%v %.90v, %v %.90v) = %d, %d", x.Neg, x.Mag, y.Neg, y.Mag, got, e)
			}
		}
	}
	for _, x := range misshapen() {
		got, e := num.Cmp(x, num.Of(-1))
		if got2, e2 := num.Cmp(num.Of(1), x); got != 0 || got2 != 0 || e != api.ErrForm || e2 != api.ErrForm {
			t.Errorf("Cmp with %v %.90v: %d, %d, %d, %d", x.Neg, x.Mag, got, e, got2, e2)
		}
	}
}

type binary = func(x, y api.Int) (api.Int, api.Errno)

func TestP4_4_SumsAndProducts(t *testing.T) {
	for _, x := range samples() {
		of(num.Neg(x)).is(t, "Neg", inForm(new(big.Int).Neg(whole(x))), api.OK)
		for _, y := range samples() {
			of(num.Add(x, y)).is(t, "Add", inForm(new(big.Int).Add(whole(x), whole(y))), api.OK)
			of(num.Sub(x, y)).is(t, "Sub", inForm(new(big.Int).Sub(whole(x), whole(y))), api.OK)
			of(num.Mul(x, y)).is(t, "Mul", inForm(new(big.Int).Mul(whole(x), whole(y))), api.OK)
		}
		of(num.Sub(x, x)).is(t, "x - x", api.Int{}, api.OK)
		of(num.Mul(x, api.Int{})).is(t, "x * 0", api.Int{}, api.OK)
	}
}

func TestP4_4_AtTheLimit(t *testing.T) {
	for _, neg := range []bool{false, true} {
		x, one, less := greatest(neg), num.Of(1), num.Of(-1)
		if neg {
			one, less = less, one
		}
		smaller := greatest(neg)
		smaller.Mag[0]--
		of(num.Add(x, one)).fails(t, "Add, one beyond", api.ErrLimit)
		of(num.Add(one, x)).fails(t, "Add, one beyond, turned round", api.ErrLimit)
		of(num.Sub(x, less)).fails(t, "Sub, one beyond", api.ErrLimit)
		of(num.Mul(x, num.Of(-2))).fails(t, "Mul, beyond", api.ErrLimit)
		of(num.Add(x, less)).is(t, "Add, within", smaller, api.OK)
		of(num.Sub(x, one)).is(t, "Sub, within", smaller, api.OK)
		of(num.Add(x, num.Of(0))).is(t, "Add of nought", x, api.OK)
		of(num.Sub(num.Of(0), x)).is(t, "Sub from nought", greatest(!neg), api.OK)
		of(num.Mul(x, num.Of(-1))).is(t, "Mul by -1", greatest(!neg), api.OK)
		of(num.Neg(x)).is(t, "Neg of the greatest", greatest(!neg), api.OK)
	}
}

func TestP4_4_Wrong(t *testing.T) {
	for _, x := range misshapen() {
		of(num.Neg(x)).fails(t, "Neg", api.ErrForm)
		for _, f := range []binary{num.Add, num.Sub, num.Mul} {
			of(f(x, num.Of(1))).fails(t, "x not in form", api.ErrForm)
			of(f(num.Of(0), x)).fails(t, "y not in form", api.ErrForm)
			of(f(greatest(true), x)).fails(t, "y not in form, and perhaps beyond the limit", api.ErrForm)
		}
	}
}

type shift = func(x api.Int, n int) (api.Int, api.Errno)

func TestP4_5_Shl(t *testing.T) {
	of(num.Shl(num.Of(-3), 2)).is(t, "Shl(-3, 2)", num.Of(-12), api.OK)
	of(num.Shl(num.Of(0), math.MaxInt)).is(t, "Shl(0, greatest)", api.Int{}, api.OK)
	of(num.Shl(num.Of(-1), 524287)).is(t, "Shl(-1, 524287)", api.Int{Neg: true, Mag: oracle.Noughts(8191, 1<<63)}, api.OK)
	of(num.Shl(num.Of(1), 524288)).fails(t, "Shl(1, 524288)", api.ErrLimit)
	of(num.Shl(num.Of(-1), math.MaxInt)).fails(t, "Shl(-1, greatest)", api.ErrLimit)
	of(num.Shl(greatest(true), 0)).is(t, "Shl(-greatest, 0)", greatest(true), api.OK)
	of(num.Shl(greatest(true), 1)).fails(t, "Shl(-greatest, 1)", api.ErrLimit)
	for _, x := range samples() {
		for _, n := range []uint{0, 1, 63, 64, 65, 200} {
			of(num.Shl(x, int(n))).is(t, "Shl", inForm(new(big.Int).Lsh(whole(x), n)), api.OK)
		}
	}
}

func TestP4_5_and_6_ShiftsWrong(t *testing.T) {
	for _, f := range []shift{num.Shl, num.FloorShr, num.CeilShr, num.NearShr} {
		for _, n := range []int{-1, -64, math.MinInt} {
			of(f(num.Of(5), n)).fails(t, "a shift below 0", api.ErrArg)
			for _, x := range misshapen() {
				of(f(x, n)).fails(t, "a shift below 0 of what has no form", api.ErrArg)
			}
		}
		for _, x := range misshapen() {
			for _, n := range []int{0, 1, 524288, math.MaxInt} {
				of(f(x, n)).fails(t, "a shift of what has no form", api.ErrForm)
			}
		}
	}
}

// floorOf, ceilOf, nearOf: x/y rounded, by the library's own whole numbers.
func floorOf(x, y *big.Int) *big.Int {
	if y.Sign() < 0 {
		x, y = new(big.Int).Neg(x), new(big.Int).Neg(y)
	}
	return new(big.Int).Div(x, y) // Euclid's quotient is the floor where y is above nought
}

func ceilOf(x, y *big.Int) *big.Int {
	q := floorOf(new(big.Int).Neg(x), y)
	return q.Neg(q)
}

func nearOf(x, y *big.Int) *big.Int {
	twice := new(big.Int).Lsh(y, 1)
	low := floorOf(new(big.Int).Add(new(big.Int).Lsh(x, 1), y), twice) // floor(x/y + 1/2)
	high := ceilOf(new(big.Int).Sub(new(big.Int).Lsh(x, 1), y), twice) // ceil(x/y - 1/2)
	if low.Bit(0) == 0 {
		return low
	}
	return high
}

func shrIs(t *testing.T, x api.Int, n uint) {
	t.Helper()
	y := new(big.Int).Lsh(big.NewInt(1), n)
	of(num.FloorShr(x, int(n))).is(t, "FloorShr", inForm(floorOf(whole(x), y)), api.OK)
	of(num.CeilShr(x, int(n))).is(t, "CeilShr", inForm(ceilOf(whole(x), y)), api.OK)
	of(num.NearShr(x, int(n))).is(t, "NearShr", inForm(nearOf(whole(x), y)), api.OK)
}

func TestP4_6_Examples(t *testing.T) {
	for _, c := range []struct{ x, n, floor, ceil, near int }{
		{-5, 1, -3, -2, -2}, {-7, 1, -4, -3, -4}, {5, 1, 2, 3, 2}, {7, 2, 1, 2, 2}, {6, 2, 1, 2, 2}, {2, 2, 0, 1, 0},
		{1, 1, 0, 1, 0}, {3, 1, 1, 2, 2}, {-1, 1, -1, 0, 0}, {-1, math.MaxInt, -1, 0, 0}, {1, math.MaxInt, 0, 1, 0}, {0, math.MaxInt, 0, 0, 0}, {-6, 0, -6, -6, -6},
	} {
		of(num.FloorShr(num.Of(c.x), c.n)).is(t, "FloorShr", num.Of(c.floor), api.OK)
		of(num.CeilShr(num.Of(c.x), c.n)).is(t, "CeilShr", num.Of(c.ceil), api.OK)
		of(num.NearShr(num.Of(c.x), c.n)).is(t, "NearShr", num.Of(c.near), api.OK)
	}
}

func TestP4_6_ByTheLibrary(t *testing.T) {
	for x := -70; x <= 70; x++ {
		for n := range uint(9) {
			shrIs(t, num.Of(x), n)
		}
	}
	for _, x := range samples() {
		for _, n := range []uint{0, 1, 2, 62, 63, 64, 65, 127, 128, 191, 192, 193, 500, 511, 512, 513, 1000} {
			shrIs(t, x, n)
		}
	}
}

func TestP4_6_AtTheLimit(t *testing.T) {
	for _, neg := range []bool{false, true} {
		for _, n := range []uint{0, 1, 64, 524286, 524287, 524288, 524289, 600000} {
			shrIs(t, greatest(neg), n)
		}
	}
}

func divIs(t *testing.T, x, y api.Int) {
	t.Helper()
	floor := floorOf(whole(x), whole(y))
	of(num.FloorDiv(x, y)).is(t, "FloorDiv", inForm(floor), api.OK)
	of(num.CeilDiv(x, y)).is(t, "CeilDiv", inForm(ceilOf(whole(x), whole(y))), api.OK)
	of(num.NearDiv(x, y)).is(t, "NearDiv", inForm(nearOf(whole(x), whole(y))), api.OK)
	of(num.Mod(x, y)).is(t, "Mod", inForm(new(big.Int).Sub(whole(x), floor.Mul(floor, whole(y)))), api.OK)
}

func TestP4_7_Examples(t *testing.T) {
	for _, c := range []struct{ x, y, floor, ceil, near int }{
		{-7, 2, -4, -3, -4}, {7, -2, -4, -3, -4}, {5, 2, 2, 3, 2}, {5, -2, -3, -2, -2}, {8, 3, 2, 3, 3}, {0, -9, 0, 0, 0}, {-7, -2, 3, 4, 4}, {1, 2, 0, 1, 0}, {-1, 2, -1, 0, 0},
	} {
		of(num.FloorDiv(num.Of(c.x), num.Of(c.y))).is(t, "FloorDiv", num.Of(c.floor), api.OK)
		of(num.CeilDiv(num.Of(c.x), num.Of(c.y))).is(t, "CeilDiv", num.Of(c.ceil), api.OK)
		of(num.NearDiv(num.Of(c.x), num.Of(c.y))).is(t, "NearDiv", num.Of(c.near), api.OK)
	}
}

func TestP4_8_Examples(t *testing.T) {
	for _, c := range []struct{ x, y, mod int }{{-7, 3, 2}, {7, -3, -2}, {6, -3, 0}, {-6, 3, 0}, {7, 3, 1}, {-7, -3, -1}, {0, -5, 0}, {2, 5, 2}, {-2, 5, 3}} {
		of(num.Mod(num.Of(c.x), num.Of(c.y))).is(t, "Mod", num.Of(c.mod), api.OK)
	}
}

func TestP4_7_and_8_ByTheLibrary(t *testing.T) {
	for x := -60; x <= 60; x++ {
		for y := -13; y <= 13; y++ {
			if y != 0 {
				divIs(t, num.Of(x), num.Of(y))
			}
		}
	}
	for _, x := range samples() {
		for _, y := range samples() {
			if num.Sign(y) != 0 {
				divIs(t, x, y)
			}
		}
	}
}

func TestP4_7_and_8_AtTheLimit(t *testing.T) {
	half := api.Int{Mag: oracle.Noughts(8191, 1<<63)}
	least := api.Int{Neg: true, Mag: oracle.Noughts(8191, 1<<63)}
	least.Mag[0]++
	for _, x := range []api.Int{greatest(false), greatest(true), half, num.Of(-1)} {
		for _, y := range []api.Int{num.Of(1), num.Of(-1), num.Of(2), num.Of(-2), greatest(false), greatest(true), half, least} {
			divIs(t, x, y)
		}
	}
}

func TestP4_7_and_8_Wrong(t *testing.T) {
	for _, f := range []binary{num.FloorDiv, num.CeilDiv, num.NearDiv, num.Mod} {
		for _, x := range []api.Int{{}, num.Of(4), num.Of(-4), greatest(true)} {
			of(f(x, num.Of(0))).fails(t, "by nought", api.ErrZero)
			of(f(x, api.Int{Mag: []uint64{}})).fails(t, "by nought", api.ErrZero)
		}
		for _, x := range misshapen() {
			of(f(x, num.Of(3))).fails(t, "x not in form", api.ErrForm)
			of(f(x, num.Of(0))).fails(t, "x not in form, by nought", api.ErrForm)
			of(f(num.Of(4), x)).fails(t, "y not in form", api.ErrForm)
		}
	}
}
