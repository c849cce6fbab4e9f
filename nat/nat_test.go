package nat_test

import (
	"math"
	"math/big"
	"slices"
	"testing"

	"gnomon/api"
	"gnomon/nat"
	"gnomon/oracle"
)

const (
	m        = 1<<64 - 1
	maxLimbs = 8192
)

// limbs is short for a list of limbs.
type limbs = []uint64

var noughts, ones, number, natural, misshapen = oracle.Noughts, oracle.Ones, oracle.Number, oracle.Natural, oracle.Misshapen

// samples: naturals in form of 0 to 6 limbs, with limbs at their edges and between.
func samples() []limbs {
	edges := limbs{0, 1, m, 1 << 63, 1<<63 - 1, 1 << 32, 0x123456789abcdef1}
	out := []limbs{nil}
	seed := uint64(1)
	for n := range 6 {
		for _, last := range edges[1:] {
			a := make(limbs, n)
			for i := range a {
				seed = seed*6364136223846793005 + 1442695040888963407
				a[i] = edges[seed>>40%uint64(len(edges))]
			}
			out = append(out, append(a, last))
		}
		out = append(out, ones(n+1), noughts(n, 1))
	}
	return out
}

type answer struct {
	got limbs
	e   api.Errno
}

func of(got limbs, e api.Errno) answer { return answer{got, e} }

func (a answer) is(t *testing.T, call string, want limbs, e api.Errno) {
	t.Helper()
	if a.e != e || !slices.Equal(a.got, want) {
		t.Errorf("%s = %.90v, error %d, want %.90v, error %d", call, a.got, a.e, want, e)
	}
}

func TestP1_1_Form(t *testing.T) {
	for _, a := range append(samples(), limbs{}, ones(maxLimbs), noughts(maxLimbs-1, 1)) {
		if !nat.Form(a) {
			t.Errorf("Form of %d limbs, %.60v, is false", len(a), a)
		}
	}
	for _, a := range misshapen() {
		if nat.Form(a) {
			t.Errorf("Form of %d limbs, %.60v, is true", len(a), a)
		}
	}
}

func TestP1_2_Norm(t *testing.T) {
	of(nat.Norm(limbs{5, 0, 0})).is(t, "Norm(5, 0, 0)", limbs{5}, api.OK)
	of(nat.Norm(limbs{0, 0})).is(t, "Norm(0, 0)", nil, api.OK)
	of(nat.Norm(limbs{0, 3, 0})).is(t, "Norm(0, 3, 0)", limbs{0, 3}, api.OK)
	of(nat.Norm(noughts(9000))).is(t, "Norm of 9000 noughts", nil, api.OK)
	of(nat.Norm(noughts(maxLimbs, 1))).is(t, "Norm of 8192 noughts and 1", nil, api.ErrLimit)
	of(nat.Norm(noughts(maxLimbs, 1, 0, 0))).is(t, "Norm of 8192 noughts, 1 and noughts", nil, api.ErrLimit)
	of(nat.Norm(append(ones(maxLimbs), 0, 0, 0))).is(t, "Norm of the greatest natural with noughts", ones(maxLimbs), api.OK)
	for _, a := range samples() {
		of(nat.Norm(a)).is(t, "Norm of a natural", a, api.OK)
		of(nat.Norm(append(slices.Clone(a), 0, 0))).is(t, "Norm of a natural with noughts", a, api.OK)
	}
}

func TestP1_2_Word(t *testing.T) {
	of(nat.Word(0), api.OK).is(t, "Word(0)", nil, api.OK)
	for _, w := range []uint64{1, 10, 1 << 63, m} {
		of(nat.Word(w), api.OK).is(t, "Word", limbs{w}, api.OK)
	}
}

// anyLists: lists in form and not, for the calls that go by the number alone.
func anyLists() []limbs {
	out := append(samples(), misshapen()...)
	for _, a := range samples() {
		out = append(out, append(slices.Clone(a), 0, 0))
	}
	return append(out, noughts(9000, 2), noughts(9000, 6, 0))
}

func TestP1_3_Bits(t *testing.T) {
	for _, c := range []struct {
		a    limbs
		want int
	}{{nil, 0}, {limbs{0}, 0}, {limbs{1}, 1}, {limbs{0, 1}, 65}, {limbs{m, 0}, 64}, {ones(maxLimbs), 524288}, {noughts(9000, 2), 576002}} {
		if got := nat.Bits(c.a); got != c.want {
			t.Errorf("Bits(%.60v) = %d, want %d", c.a, got, c.want)
		}
	}
	for _, a := range anyLists() {
		if got, want := nat.Bits(a), number(a).BitLen(); got != want {
			t.Errorf("Bits(%.60v) = %d, want %d", a, got, want)
		}
	}
}

func TestP1_3_Trail(t *testing.T) {
	for _, c := range []struct {
		a    limbs
		want int
	}{{nil, 0}, {limbs{0, 0}, 0}, {limbs{1}, 0}, {limbs{0, 6}, 65}, {limbs{1 << 63}, 63}, {noughts(9000, 2), 576001}} {
		if got := nat.Trail(c.a); got != c.want {
			t.Errorf("Trail(%.60v) = %d, want %d", c.a, got, c.want)
		}
	}
	for _, a := range anyLists() {
		if got, want := nat.Trail(a), int(number(a).TrailingZeroBits()); got != want {
			t.Errorf("Trail(%.60v) = %d, want %d", a, got, want)
		}
	}
}

func TestP1_3_Bit(t *testing.T) {
	for _, i := range []int{-1, -64, math.MinInt, 3, 63, 64, 128, math.MaxInt} {
		if nat.Bit(limbs{5}, i) {
			t.Errorf("Bit(5, %d) is true", i)
		}
		if nat.Bit(nil, i) {
			t.Errorf("Bit of nought, %d, is true", i)
		}
	}
	for _, a := range append(samples(), limbs{0}, limbs{5, 0}, limbs{0, 1, 0}) {
		x := number(a)
		for i := range 64*len(a) + 66 {
			if got := nat.Bit(a, i); got != (x.Bit(i) == 1) {
				t.Errorf("Bit(%v, %d) is %v", a, i, got)
			}
		}
	}
	if !nat.Bit(noughts(9000, 2), 576001) || nat.Bit(noughts(9000, 2), 576000) {
		t.Errorf("Bit of a list above MaxLimbs is wrong")
	}
}

func TestP1_3_Cmp(t *testing.T) {
	for _, c := range []struct {
		a, b limbs
		want int
	}{{limbs{1}, limbs{1, 0}, 0}, {limbs{m}, limbs{0, 1}, -1}, {limbs{0, 2}, limbs{m, 1}, 1}, {nil, limbs{0, 0}, 0}, {nil, limbs{0, 1}, -1}} {
		if got := nat.Cmp(c.a, c.b); got != c.want {
			t.Errorf("Cmp(%v, %v) = %d, want %d", c.a, c.b, got, c.want)
		}
	}
	lists := anyLists()
	for _, a := range lists {
		x := number(a)
		for _, b := range lists {
			if got, want := nat.Cmp(a, b), x.Cmp(number(b)); got != want {
				t.Fatalf("Cmp(%.60v, %.60v) = %d, want %d", a, b, got, want)
			}
		}
	}
}

func TestP1_4_Add(t *testing.T) {
	of(nat.Add(limbs{m}, limbs{1})).is(t, "Add(m, 1)", limbs{0, 1}, api.OK)
	of(nat.Add(nil, limbs{})).is(t, "Add of noughts", nil, api.OK)
	for _, n := range []int{1, 5, 100, maxLimbs - 1} {
		of(nat.Add(ones(n), limbs{1})).is(t, "Add, a carry through all limbs", noughts(n, 1), api.OK)
		of(nat.Add(limbs{1}, ones(n))).is(t, "Add, a carry through all limbs", noughts(n, 1), api.OK)
	}
	of(nat.Add(ones(maxLimbs), nil)).is(t, "Add, the greatest and nought", ones(maxLimbs), api.OK)
	of(nat.Add(noughts(maxLimbs-1, m), ones(maxLimbs-1))).is(t, "Add, up to the greatest", ones(maxLimbs), api.OK)
	of(nat.Add(ones(maxLimbs), limbs{1})).is(t, "Add, beyond the greatest", nil, api.ErrLimit)
	of(nat.Add(noughts(maxLimbs-1, 1<<63), noughts(maxLimbs-1, 1<<63))).is(t, "Add, beyond the greatest", nil, api.ErrLimit)
	of(nat.Add(limbs{1, 0}, nil)).is(t, "Add(1 0, nought)", nil, api.ErrForm)
	of(nat.Add(ones(maxLimbs), limbs{1, 0})).is(t, "Add, no form and too long", nil, api.ErrForm)
	for _, a := range samples() {
		for _, b := range samples() {
			want := natural(new(big.Int).Add(number(a), number(b)))
			of(nat.Add(a, b)).is(t, "Add", want, api.OK)
		}
	}
}

func TestP1_5_Sub(t *testing.T) {
	of(nat.Sub(limbs{0, 1}, limbs{1})).is(t, "Sub(0 1, 1)", limbs{m}, api.OK)
	of(nat.Sub(limbs{7}, limbs{7})).is(t, "Sub(7, 7)", nil, api.OK)
	of(nat.Sub(nil, nil)).is(t, "Sub of noughts", nil, api.OK)
	of(nat.Sub(limbs{1}, limbs{2})).is(t, "Sub(1, 2)", nil, api.ErrSign)
	of(nat.Sub(nil, limbs{1})).is(t, "Sub(nought, 1)", nil, api.ErrSign)
	of(nat.Sub(limbs{1}, limbs{2, 0})).is(t, "Sub(1, 2 0)", nil, api.ErrForm)
	of(nat.Sub(limbs{0}, limbs{2})).is(t, "Sub, no form and below nought", nil, api.ErrForm)
	for _, n := range []int{1, 5, 100, maxLimbs - 1} {
		of(nat.Sub(noughts(n, 1), limbs{1})).is(t, "Sub, a borrow through all limbs", ones(n), api.OK)
	}
	of(nat.Sub(ones(maxLimbs), ones(maxLimbs))).is(t, "Sub of the greatest from itself", nil, api.OK)
	for _, a := range samples() {
		for _, b := range samples() {
			d := new(big.Int).Sub(number(a), number(b))
			if d.Sign() < 0 {
				of(nat.Sub(a, b)).is(t, "Sub", nil, api.ErrSign)
			} else {
				of(nat.Sub(a, b)).is(t, "Sub", natural(d), api.OK)
			}
		}
	}
}

// places: shifts about the edges of limbs.
func places() []int {
	return []int{0, 1, 4, 31, 63, 64, 65, 127, 128, 129, 191, 192, 320, 383, 384, 385, 900}
}

func TestP1_6_Shl(t *testing.T) {
	of(nat.Shl(limbs{1}, 64)).is(t, "Shl(1, 64)", limbs{0, 1}, api.OK)
	of(nat.Shl(limbs{m}, 4)).is(t, "Shl(m, 4)", limbs{m - 15, 15}, api.OK)
	of(nat.Shl(nil, math.MaxInt)).is(t, "Shl of nought", nil, api.OK)
	of(nat.Shl(limbs{1}, 524287)).is(t, "Shl(1, 524287)", noughts(maxLimbs-1, 1<<63), api.OK)
	of(nat.Shl(limbs{1}, 524288)).is(t, "Shl(1, 524288)", nil, api.ErrLimit)
	of(nat.Shl(limbs{0, 1}, 524223)).is(t, "Shl(0 1, 524223)", noughts(maxLimbs-1, 1<<63), api.OK)
	of(nat.Shl(limbs{0, 1}, 524224)).is(t, "Shl(0 1, 524224)", nil, api.ErrLimit)
	of(nat.Shl(limbs{1}, math.MaxInt)).is(t, "Shl(1, greatest)", nil, api.ErrLimit)
	of(nat.Shl(ones(maxLimbs), 0)).is(t, "Shl of the greatest by 0", ones(maxLimbs), api.OK)
	of(nat.Shl(ones(maxLimbs), 1)).is(t, "Shl of the greatest by 1", nil, api.ErrLimit)
	of(nat.Shl(limbs{5, 0}, math.MaxInt)).is(t, "Shl, no form and too long", nil, api.ErrForm)
	shiftErrors(t, "Shl", nat.Shl)
	for _, a := range samples() {
		for _, n := range places() {
			want := natural(new(big.Int).Lsh(number(a), uint(n)))
			of(nat.Shl(a, n)).is(t, "Shl", want, api.OK)
		}
	}
}

func TestP1_7_Shr(t *testing.T) {
	of(nat.Shr(limbs{0, 1}, 1)).is(t, "Shr(0 1, 1)", limbs{1 << 63}, api.OK)
	of(nat.Shr(limbs{m, 1}, 65)).is(t, "Shr(m 1, 65)", nil, api.OK)
	of(nat.Shr(limbs{m, 2}, 65)).is(t, "Shr(m 2, 65)", limbs{1}, api.OK)
	of(nat.Shr(limbs{3}, math.MaxInt)).is(t, "Shr(3, greatest)", nil, api.OK)
	of(nat.Shr(nil, 0)).is(t, "Shr of nought", nil, api.OK)
	of(nat.Shr(ones(maxLimbs), 524287)).is(t, "Shr of the greatest", limbs{1}, api.OK)
	of(nat.Shr(ones(maxLimbs), 524288)).is(t, "Shr of the greatest", nil, api.OK)
	shiftErrors(t, "Shr", nat.Shr)
	for _, a := range samples() {
		for _, n := range places() {
			want := natural(new(big.Int).Rsh(number(a), uint(n)))
			of(nat.Shr(a, n)).is(t, "Shr", want, api.OK)
		}
	}
}

func TestP1_8_Low(t *testing.T) {
	of(nat.Low(limbs{m, 1}, 64)).is(t, "Low(m 1, 64)", limbs{m}, api.OK)
	of(nat.Low(limbs{0, 1}, 64)).is(t, "Low(0 1, 64)", nil, api.OK)
	of(nat.Low(limbs{6}, 2)).is(t, "Low(6, 2)", limbs{2}, api.OK)
	of(nat.Low(limbs{6}, 0)).is(t, "Low(6, 0)", nil, api.OK)
	of(nat.Low(limbs{6}, 900)).is(t, "Low(6, 900)", limbs{6}, api.OK)
	of(nat.Low(limbs{6}, math.MaxInt)).is(t, "Low(6, greatest)", limbs{6}, api.OK)
	of(nat.Low(nil, 5)).is(t, "Low of nought", nil, api.OK)
	of(nat.Low(ones(maxLimbs), 524288)).is(t, "Low of the greatest", ones(maxLimbs), api.OK)
	of(nat.Low(ones(maxLimbs), 524224)).is(t, "Low of the greatest", ones(maxLimbs-1), api.OK)
	shiftErrors(t, "Low", nat.Low)
	for _, a := range samples() {
		for _, n := range places() {
			bound := new(big.Int).Lsh(big.NewInt(1), uint(n))
			want := natural(new(big.Int).Mod(number(a), bound))
			of(nat.Low(a, n)).is(t, "Low", want, api.OK)
		}
	}
}

// shiftErrors: n below 0 goes ahead of a list that is not in form.
func shiftErrors(t *testing.T, name string, call func(limbs, int) (limbs, api.Errno)) {
	t.Helper()
	for _, n := range []int{-1, -64, math.MinInt} {
		of(call(limbs{3}, n)).is(t, name+", n below 0", nil, api.ErrArg)
		of(call(nil, n)).is(t, name+" of nought, n below 0", nil, api.ErrArg)
		of(call(limbs{0}, n)).is(t, name+", n below 0 and no form", nil, api.ErrArg)
	}
	for _, a := range misshapen() {
		for _, n := range []int{0, 1, 64, math.MaxInt} {
			of(call(a, n)).is(t, name+", no form", nil, api.ErrForm)
		}
	}
}

func TestP1_9_MulWord(t *testing.T) {
	of(nat.MulWord(limbs{m}, m)).is(t, "MulWord(m, m)", limbs{1, m - 1}, api.OK)
	of(nat.MulWord(limbs{5}, 0)).is(t, "MulWord(5, 0)", nil, api.OK)
	of(nat.MulWord(nil, m)).is(t, "MulWord(nought, m)", nil, api.OK)
	of(nat.MulWord(ones(maxLimbs), 0)).is(t, "MulWord(greatest, 0)", nil, api.OK)
	of(nat.MulWord(ones(maxLimbs), 1)).is(t, "MulWord(greatest, 1)", ones(maxLimbs), api.OK)
	of(nat.MulWord(ones(maxLimbs), 2)).is(t, "MulWord(greatest, 2)", nil, api.ErrLimit)
	of(nat.MulWord(noughts(maxLimbs-1, 1<<32), 1<<31)).is(t, "MulWord, just within", noughts(maxLimbs-1, 1<<63), api.OK)
	of(nat.MulWord(noughts(maxLimbs-1, 1<<32), 1<<32)).is(t, "MulWord, just beyond", nil, api.ErrLimit)
	for _, a := range misshapen() {
		of(nat.MulWord(a, 0)).is(t, "MulWord, no form", nil, api.ErrForm)
		of(nat.MulWord(a, m)).is(t, "MulWord, no form", nil, api.ErrForm)
	}
	for _, a := range samples() {
		for _, w := range []uint64{0, 1, 2, 10, 1 << 63, m} {
			want := natural(new(big.Int).Mul(number(a), new(big.Int).SetUint64(w)))
			of(nat.MulWord(a, w)).is(t, "MulWord", want, api.OK)
		}
	}
}

func TestP1_10_DivWord(t *testing.T) {
	check := func(a limbs, w uint64, quotient limbs, rest uint64, e api.Errno) {
		t.Helper()
		if q, r, got := nat.DivWord(a, w); !slices.Equal(q, quotient) || r != rest || got != e {
			t.Errorf("DivWord(%.60v, %d) = %.60v, %d, error %d, want %.60v, %d, error %d", a, w, q, r, got, quotient, rest, e)
		}
	}
	check(limbs{0, 1}, 10, limbs{1844674407370955161}, 6, api.OK)
	check(limbs{7}, 0, nil, 0, api.ErrZero)
	check(nil, 0, nil, 0, api.ErrZero)
	check(limbs{0}, 0, nil, 0, api.ErrForm)
	check(nil, 3, nil, 0, api.OK)
	check(limbs{m - 1}, m, nil, m-1, api.OK)
	check(ones(maxLimbs), m, slices.Repeat(limbs{1}, maxLimbs), 0, api.OK)
	check(ones(maxLimbs), 1, ones(maxLimbs), 0, api.OK)
	for _, a := range misshapen() {
		check(a, 0, nil, 0, api.ErrForm)
		check(a, 3, nil, 0, api.ErrForm)
	}
	for _, a := range samples() {
		for _, w := range []uint64{1, 2, 10, 1 << 63, m} {
			q, r := new(big.Int).QuoRem(number(a), new(big.Int).SetUint64(w), new(big.Int))
			check(a, w, natural(q), r.Uint64(), api.OK)
		}
	}
}

func TestNoFormIsToldOfBothArguments(t *testing.T) {
	for _, a := range misshapen() {
		of(nat.Add(a, limbs{1})).is(t, "Add, a not in form", nil, api.ErrForm)
		of(nat.Add(limbs{1}, a)).is(t, "Add, b not in form", nil, api.ErrForm)
		of(nat.Sub(a, limbs{1})).is(t, "Sub, a not in form", nil, api.ErrForm)
		of(nat.Sub(limbs{1}, a)).is(t, "Sub, b not in form", nil, api.ErrForm)
		of(nat.Sub(a, a)).is(t, "Sub, neither in form", nil, api.ErrForm)
	}
}
