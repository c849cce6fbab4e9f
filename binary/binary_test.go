package binary_test

import (
	"math"
	"math/big"
	"math/bits"
	"slices"
	"testing"

	"gnomon/api"
	"gnomon/binary"
	"gnomon/oracle"
)

const (
	single = api.Single
	double = api.Double
	most   = math.MaxInt
	lowest = math.MinInt
)

// told is what a call tells beside an error: a pattern, or a number that is as good as one.
type told struct {
	got uint64
	e   api.Errno
}

func of[T ~int | ~uint64](got T, e api.Errno) told { return told{uint64(got), e} }

func (a told) is(t *testing.T, call string, f api.Format, b uint64, want uint64, e api.Errno) {
	t.Helper()
	if a.got != want || a.e != e {
		t.Errorf("%s(%d, %#x) = %#x, error %d, want %#x, error %d", call, f, b, a.got, a.e, want, e)
	}
}

// fails: the error, and nothing beside it.
func (a told) fails(t *testing.T, call string, f api.Format, b uint64, e api.Errno) {
	t.Helper()
	a.is(t, call, f, b, 0, e)
}

type answer struct {
	got api.Dyadic
	e   api.Errno
}

func number(got api.Dyadic, e api.Errno) answer { return answer{got, e} }

func (a answer) is(t *testing.T, call string, f api.Format, b uint64, want api.Dyadic, e api.Errno) {
	t.Helper()
	if a.e != e || !oracle.Same(a.got, want) {
		t.Errorf("%s(%d, %#x) = %s, error %d, want %s, error %d", call, f, b, oracle.Tell(a.got), a.e, oracle.Tell(want), e)
	}
}

// patterns: all kinds of a format's patterns.
func patterns(f api.Format) []uint64 {
	end := oracle.Infinity(f)
	return slices.Concat(oracle.Finite(f), oracle.NaNs(f), []uint64{end, oracle.Minus(f, end)})
}

// exponents: E and G of the document's table, and the bits of a mantissa.
func exponents(f api.Format) (least, greatest, mantissa int) {
	if f == single {
		return -149, 104, 24
	}
	return -1074, 971, 53
}

// classOf: the class by the library's own floats.
func classOf(f api.Format, b uint64) binary.Class {
	x := oracle.Float(f, b)
	least := 0x1p-1022
	if f == single {
		least = 0x1p-126
	}
	switch {
	case math.IsNaN(x):
		return binary.NaN
	case math.IsInf(x, 0):
		return binary.Infinite
	case math.Abs(x) >= least:
		return binary.Normal
	case x != 0:
		return binary.Subnormal
	}
	return binary.Zero
}

func TestP7_1_TheClassesAreNumbered(t *testing.T) {
	if binary.Zero != 0 || binary.Subnormal != 1 || binary.Normal != 2 || binary.Infinite != 3 || binary.NaN != 4 {
		t.Errorf("the classes are numbered in another way")
	}
}

func TestP7_1_ClassOf(t *testing.T) {
	for _, c := range []struct {
		f    api.Format
		b    uint64
		want binary.Class
	}{
		{double, 1 << 63, binary.Zero}, {double, 0, binary.Zero}, {double, 1, binary.Subnormal}, {double, 0x000FFFFFFFFFFFFF, binary.Subnormal}, {double, 0x0010000000000000, binary.Normal}, {double, 0x7FEFFFFFFFFFFFFF, binary.Normal}, {double, 0x7FF0000000000000, binary.Infinite}, {double, 0x7FF0000000000001, binary.NaN}, {double, math.MaxUint64, binary.NaN},
		{single, 1 << 31, binary.Zero}, {single, 0x807FFFFF, binary.Subnormal}, {single, 0x80800000, binary.Normal}, {single, 0xFF7FFFFF, binary.Normal}, {single, 0x7F800000, binary.Infinite}, {single, 0xFF800000, binary.Infinite}, {single, 0xFF800001, binary.NaN}, {single, 0xFFFFFFFF, binary.NaN},
	} {
		of(binary.ClassOf(c.f, c.b)).is(t, "ClassOf", c.f, c.b, uint64(c.want), api.OK)
	}
	for _, f := range oracle.Formats() {
		for _, b := range patterns(f) {
			of(binary.ClassOf(f, b)).is(t, "ClassOf", f, b, uint64(classOf(f, b)), api.OK)
		}
	}
	for b := uint64(0); b < 1<<32; b += 104729 {
		of(binary.ClassOf(single, b)).is(t, "ClassOf", single, b, uint64(classOf(single, b)), api.OK)
	}
}

func TestP7_1_Quiet(t *testing.T) {
	of(binary.Quiet(single)).is(t, "Quiet", single, 0, 0x7FC00001, api.OK)
	of(binary.Quiet(double)).is(t, "Quiet", double, 0, 0x7FF8000000000001, api.OK)
	for _, f := range oracle.NoFormats() {
		of(binary.Quiet(f)).fails(t, "Quiet", f, 0, api.ErrArg)
	}
}

// splitIs: the parts have the pattern's number, and are those of its class.
func splitIs(t *testing.T, f api.Format, b uint64) {
	t.Helper()
	least, greatest, mantissa := exponents(f)
	neg, man, exp, e := binary.Split(f, b)
	if e != api.OK || neg != math.Signbit(oracle.Float(f, b)) || math.Ldexp(float64(man), exp) != math.Abs(oracle.Float(f, b)) {
		t.Errorf("Split(%d, %#x) = %v, %d, %d, error %d: not its number", f, b, neg, man, exp, e)
	}
	if normal := classOf(f, b) == binary.Normal; normal && bits.Len64(man) != mantissa || !normal && exp != least || exp < least || exp > greatest {
		t.Errorf("Split(%d, %#x) = %v, %d, %d: not its parts", f, b, neg, man, exp)
	}
}

func TestP7_2_Split(t *testing.T) {
	for _, c := range []struct {
		f   api.Format
		b   uint64
		neg bool
		man uint64
		exp int
	}{
		{double, 0x3FF0000000000000, false, 1 << 52, -52}, {double, 3, false, 3, -1074}, {double, 1 << 63, true, 0, -1074}, {double, 0, false, 0, -1074}, {single, 0xC0400000, true, 3 << 22, -22}, {single, 0, false, 0, -149},
		{double, 0x000FFFFFFFFFFFFF, false, 1<<52 - 1, -1074}, {double, 0x0010000000000000, false, 1 << 52, -1074}, {double, 0x0020000000000000, false, 1 << 52, -1073}, {double, 0xFFEFFFFFFFFFFFFF, true, 1<<53 - 1, 971}, {single, 0x7F7FFFFF, false, 1<<24 - 1, 104}, {single, 0x00800000, false, 1 << 23, -149},
	} {
		if neg, man, exp, e := binary.Split(c.f, c.b); neg != c.neg || man != c.man || exp != c.exp || e != api.OK {
			t.Errorf("Split(%d, %#x) = %v, %d, %d, error %d", c.f, c.b, neg, man, exp, e)
		}
	}
	for _, f := range oracle.Formats() {
		for _, b := range oracle.Finite(f) {
			splitIs(t, f, b)
		}
	}
}

func TestP7_3_Examples(t *testing.T) {
	for _, c := range []struct {
		f    api.Format
		neg  bool
		man  uint64
		exp  int
		want uint64
		e    api.Errno
	}{
		{double, false, 1, 0, 0x3FF0000000000000, api.OK}, {double, false, 4, -1075, 2, api.OK}, {double, false, 1, -1075, 0, api.ErrLimit}, {double, false, 1, 1024, 0, api.ErrLimit}, {single, false, 1<<24 + 1, 0, 0, api.ErrLimit}, {single, false, 1<<25 + 2, 0, 0, api.ErrLimit}, {single, false, 1<<25 + 4, 0, 0x4C000001, api.OK}, {double, false, 1 << 63, 960, 0x7FE0000000000000, api.OK}, {double, false, 1 << 63, 961, 0, api.ErrLimit},
		{double, true, 1 << 63, -1137, 1<<63 + 1, api.OK}, {double, true, 1 << 63, -1138, 0, api.ErrLimit}, {single, true, 1 << 63, -212, 1<<31 + 1, api.OK}, {single, true, 1 << 63, -213, 0, api.ErrLimit}, {double, true, 1<<53 - 1, 971, 0xFFEFFFFFFFFFFFFF, api.OK}, {double, false, 1<<54 - 1, 970, 0, api.ErrLimit}, {double, false, 1<<54 - 2, 970, 0x7FEFFFFFFFFFFFFF, api.OK}, {single, false, 1<<24 - 1, 104, 0x7F7FFFFF, api.OK}, {single, false, 1, 127, 0x7F000000, api.OK}, {single, false, 1, 128, 0, api.ErrLimit},
	} {
		of(binary.Join(c.f, c.neg, c.man, c.exp)).is(t, "Join", c.f, c.man, c.want, c.e)
	}
}

func TestP7_3_JoinIsSplitTurnedRound(t *testing.T) {
	for _, f := range oracle.Formats() {
		for _, b := range oracle.Finite(f) {
			neg, man, exp, _ := binary.Split(f, b)
			for k := range 64 - bits.Len64(man) + 1 {
				of(binary.Join(f, neg, man<<k, exp-k)).is(t, "Join of the parts", f, b, b, api.OK)
			}
		}
	}
}

// join: what Join must answer, by the library: the pattern to which the number rounds, if that has just this number.
func join(f api.Format, neg bool, man uint64, exp int) (uint64, api.Errno) {
	x := oracle.Value(api.Dyadic{Man: api.Int{Neg: neg, Mag: []uint64{man}}, Exp: exp})
	b := oracle.Rounded(f, x)
	if math.IsInf(oracle.Float(f, b), 0) || oracle.ValueOf(f, b).Cmp(x) != 0 {
		return 0, api.ErrLimit
	}
	return b, api.OK
}

func TestP7_3_JoinByTheLibrary(t *testing.T) {
	for _, f := range oracle.Formats() {
		least, greatest, mantissa := exponents(f)
		full := uint64(1)<<mantissa - 1
		mans := []uint64{1, 2, 3, 5, 96, full / 2, full - 1, full, full + 1, full + 2, 2*full + 1, 2*full + 4, full << 9, 1 << 62, 1<<63 - 1, 1 << 63, 1<<63 + 1, 3 << 62, math.MaxUint64}
		for _, edge := range []int{least - 63, least, least + mantissa, 0, greatest - 40, greatest, greatest + mantissa} {
			for exp := edge - 70; exp <= edge+70; exp += 1 + (exp&3)/3 {
				for i, man := range mans {
					want, e := join(f, i%2 == 1, man, exp)
					if b, e2 := binary.Join(f, i%2 == 1, man, exp); b != want || e != e2 {
						t.Errorf("Join(%d, %d, %d) = %#x, error %d, want %#x, error %d", f, man, exp, b, e2, want, e)
					}
				}
			}
		}
	}
}

func TestP7_3_AtEveryExponent(t *testing.T) {
	for _, f := range oracle.Formats() {
		for _, exp := range []int{lowest, lowest + 1, lowest + 63, lowest + 64, -1 << 32, most, most - 1, most - 63, most - 64, 1 << 32, 0, 77} {
			of(binary.Join(f, false, 0, exp)).is(t, "Join of nought", f, 0, 0, api.OK)
			of(binary.Join(f, true, 0, exp)).is(t, "Join of nought with a sign", f, 0, oracle.Minus(f, 0), api.OK)
			if exp < -1<<31 || exp > 1<<31 {
				for _, man := range []uint64{1, 2, 3, 1 << 63, math.MaxUint64} {
					of(binary.Join(f, false, man, exp)).fails(t, "Join", f, man, api.ErrLimit)
				}
			}
		}
	}
	for _, f := range oracle.NoFormats() {
		for _, exp := range []int{0, lowest, most} {
			of(binary.Join(f, true, 0, exp)).fails(t, "Join", f, 0, api.ErrArg)
			of(binary.Join(f, false, 1, exp)).fails(t, "Join", f, 1, api.ErrArg)
		}
	}
}

func TestP7_4_Value(t *testing.T) {
	number(binary.Value(double, 0x4008000000000000)).is(t, "Value", double, 0x4008000000000000, oracle.Times(big.NewInt(3), 0), api.OK)
	number(binary.Value(double, 1<<63)).is(t, "Value", double, 1<<63, api.Dyadic{}, api.OK)
	number(binary.Value(single, 1<<31)).is(t, "Value", single, 1<<31, api.Dyadic{}, api.OK)
	number(binary.Value(single, 1)).is(t, "Value", single, 1, oracle.Times(big.NewInt(1), -149), api.OK)
	for _, f := range oracle.Formats() {
		for _, b := range oracle.Finite(f) {
			number(binary.Value(f, b)).is(t, "Value", f, b, oracle.Dyadic(oracle.ValueOf(f, b)), api.OK)
		}
	}
}

func TestP7_7_Mid(t *testing.T) {
	for _, c := range []struct {
		f        api.Format
		b        uint64
		man, exp int
	}{
		{double, 0x3FF0000000000000, 1<<53 + 1, -53}, {double, 0x7FEFFFFFFFFFFFFF, 1<<54 - 1, 970}, {double, 0xFFEFFFFFFFFFFFFF, 1 - 1<<54, 970}, {single, 0x80000000, -1, -150}, {single, 0, 1, -150}, {double, 0, 1, -1075}, {double, 1 << 63, -1, -1075}, {single, 0x7F7FFFFF, 1<<25 - 1, 103}, {single, 0xFF7FFFFF, 1 - 1<<25, 103},
		{double, 0x000FFFFFFFFFFFFF, 1<<53 - 1, -1075}, {double, 0x3FEFFFFFFFFFFFFF, 1<<54 - 1, -54},
	} {
		number(binary.Mid(c.f, c.b)).is(t, "Mid", c.f, c.b, oracle.Times(big.NewInt(int64(c.man)), c.exp), api.OK)
	}
	for _, f := range oracle.Formats() {
		for _, b := range oracle.Finite(f) {
			number(binary.Mid(f, b)).is(t, "Mid", f, b, oracle.Dyadic(oracle.Half(f, b)), api.OK)
		}
	}
}

func TestP7_2_and_4_and_7_Wrong(t *testing.T) {
	fails := func(f api.Format, b uint64, e api.Errno) {
		t.Helper()
		if neg, man, exp, e2 := binary.Split(f, b); neg || man != 0 || exp != 0 || e2 != e {
			t.Errorf("Split(%d, %#x) = %v, %d, %d, error %d, want error %d", f, b, neg, man, exp, e2, e)
		}
		number(binary.Value(f, b)).is(t, "Value", f, b, api.Dyadic{}, e)
		number(binary.Mid(f, b)).is(t, "Mid", f, b, api.Dyadic{}, e)
	}
	for _, f := range oracle.Formats() {
		end := oracle.Infinity(f)
		for _, b := range append(oracle.NaNs(f), end, oracle.Minus(f, end)) {
			fails(f, b, api.ErrClass)
		}
	}
	for _, b := range oracle.NoPatterns() {
		fails(single, b, api.ErrForm)
		for _, f := range oracle.NoFormats() {
			fails(f, b, api.ErrArg)
		}
	}
}

func TestP7_8_Widen(t *testing.T) {
	for _, c := range []struct{ b, want uint64 }{
		{0x3F800000, 0x3FF0000000000000}, {1, 0x36A0000000000000}, {0, 0}, {0x80000000, 1 << 63}, {0x7F800000, 0x7FF0000000000000}, {0xFF800000, 0xFFF0000000000000}, {0xFFC00000, 0x7FF8000000000001}, {0x7F7FFFFF, 0x47EFFFFFE0000000}, {0x807FFFFF, 0xB80FFFFFC0000000}, {0x00800000, 0x3810000000000000},
	} {
		of(binary.Widen(c.b)).is(t, "Widen", single, c.b, c.want, api.OK)
	}
	end := oracle.Infinity(single)
	for _, b := range append(oracle.Finite(single), end, oracle.Minus(single, end)) {
		of(binary.Widen(b)).is(t, "Widen", single, b, math.Float64bits(oracle.Float(single, b)), api.OK)
	}
	for b := uint64(0); b < 1<<32; b += 99991 {
		if classOf(single, b) != binary.NaN {
			of(binary.Widen(b)).is(t, "Widen", single, b, math.Float64bits(oracle.Float(single, b)), api.OK)
		}
	}
	for _, b := range oracle.NaNs(single) {
		of(binary.Widen(b)).is(t, "Widen", single, b, 0x7FF8000000000001, api.OK)
	}
	for _, b := range oracle.NoPatterns() {
		of(binary.Widen(b)).fails(t, "Widen", single, b, api.ErrForm)
	}
}
