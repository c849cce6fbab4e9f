package round_test

import (
	"math"
	"math/big"
	"testing"

	"gnomon/api"
	"gnomon/oracle"
	"gnomon/round"
)

const (
	single = api.Single
	double = api.Double
	maxExp = api.MaxExp
)

var (
	value, inForm, tell, tellSpan = oracle.Value, oracle.Dyadic, oracle.Tell, oracle.TellSpan
	n, long, gap, minus, same     = oracle.Fields, oracle.Long, oracle.Gap, oracle.Opposite, oracle.Same
)

type answer struct {
	got uint64
	e   api.Errno
}

func of(got uint64, e api.Errno) answer { return answer{got, e} }

func (a answer) is(t *testing.T, call string, f api.Format, want uint64, e api.Errno) {
	t.Helper()
	if a.got != want || a.e != e {
		t.Errorf("%s, format %d: %#x, error %d, want %#x, error %d", call, f, a.got, a.e, want, e)
	}
}

// fails: the error, and nothing beside it.
func (a answer) fails(t *testing.T, call string, f api.Format, e api.Errno) {
	t.Helper()
	a.is(t, call, f, 0, e)
}

// nearestIs: where d goes, and where -d does.
func nearestIs(t *testing.T, f api.Format, d api.Dyadic, want uint64) {
	t.Helper()
	of(round.Nearest(f, d)).is(t, "Nearest of "+tell(d), f, want, api.OK)
	of(round.Nearest(f, minus(d))).is(t, "Nearest of "+tell(minus(d)), f, oracle.Minus(f, want), api.OK)
}

func TestP8_1_Examples(t *testing.T) {
	for _, c := range []struct {
		f    api.Format
		d    api.Dyadic
		want uint64
	}{
		{double, n(1, 0), 0x3ff0000000000000}, {single, n(1, 0), 0x3f800000},
		{double, n(9007199254740993, 0), 0x4340000000000000}, {double, n(9007199254740995, 0), 0x4340000000000002},
		{single, n(1<<24+1, 0), 0x4b800000}, {single, n(1<<24+3, 0), 0x4b800002},
		{double, n(3, -1076), 1}, {double, n(1, -1075), 0}, {double, n(3, -1075), 2}, {double, n(5, -1075), 2}, {double, n(1, -1074), 1},
		{single, n(3, -151), 1}, {single, n(1, -150), 0}, {single, n(3, -150), 2}, {single, n(5, -150), 2}, {single, n(1, -149), 1},
		{double, n(1<<53-1, -1075), 0x0010000000000000}, {double, n(1<<53-3, -1075), 0x000ffffffffffffe}, {single, n(1<<24-1, -150), 0x00800000},
		{double, n(18014398509481983, 970), 0x7ff0000000000000}, {double, n(36028797018963965, 969), 0x7fefffffffffffff}, {double, n(1, 1024), 0x7ff0000000000000}, {double, n(3, 1023), 0x7ff0000000000000}, {double, n(1<<53-1, 972), 0x7ff0000000000000}, {double, n(1, 1025), 0x7ff0000000000000}, {double, n(1<<53-1, 971), 0x7fefffffffffffff},
		{single, n(1<<25-1, 103), 0x7f800000}, {single, n(1<<26-3, 102), 0x7f7fffff}, {single, n(1, 128), 0x7f800000}, {single, n(3, 127), 0x7f800000}, {single, n(1<<24-1, 105), 0x7f800000}, {single, n(1, 129), 0x7f800000}, {single, n(1<<24-1, 104), 0x7f7fffff}, {single, n(1, 127), 0x7f000000},
	} {
		nearestIs(t, c.f, c.d, c.want)
	}
	for _, f := range oracle.Formats() {
		of(round.Nearest(f, api.Dyadic{})).is(t, "Nearest of nought", f, 0, api.OK)
		of(round.Nearest(f, api.Dyadic{Man: api.Int{Mag: []uint64{}}})).is(t, "Nearest of an empty nought", f, 0, api.OK)
	}
}

func TestP8_1_AtTheLimits(t *testing.T) {
	for _, f := range oracle.Formats() {
		end := oracle.Infinity(f)
		nearestIs(t, f, n(1, -maxExp), 0)
		nearestIs(t, f, n(1, maxExp), end)
		nearestIs(t, f, n(math.MaxInt, maxExp), end)
		nearestIs(t, f, long(8192, maxExp), end)
		nearestIs(t, f, long(8192, -maxExp), 0)
		nearestIs(t, f, gap(8192, -524287), oracle.Bits(f, 1))
		nearestIs(t, f, long(8192, -524288), oracle.Bits(f, 1))
		nearestIs(t, f, long(8192, 0), end)
	}
	nearestIs(t, double, gap(8192, -524287-1075), 1)
	nearestIs(t, double, gap(8192, -524287-1076), 0)
	nearestIs(t, double, long(8192, -524288-1074), 1)
	nearestIs(t, double, long(8192, -524288-1075), 0)
	nearestIs(t, double, long(8192, -524288+1024), 0x7ff0000000000000)
	nearestIs(t, single, gap(8192, -524287-150), 1)
	nearestIs(t, single, gap(8192, -524287-151), 0)
	nearestIs(t, single, long(8192, -524288+128), 0x7f800000)
}

// about: x, and x a hair below and above it, farther away than that, and each turned round.
func about(x *big.Rat) []*big.Rat {
	var out []*big.Rat
	for _, k := range []uint{60, 200, 1300} {
		hair := new(big.Rat).SetFrac(big.NewInt(1), new(big.Int).Lsh(big.NewInt(1), k))
		hair.Mul(hair, x)
		out = append(out, new(big.Rat).Sub(x, hair), new(big.Rat).Add(x, hair))
	}
	return append(out, x, new(big.Rat).Neg(x))
}

func TestP8_1_ByTheLibrary(t *testing.T) {
	for _, f := range oracle.Formats() {
		for _, b := range oracle.Finite(f) {
			for _, x := range append(about(oracle.ValueOf(f, b)), about(oracle.Half(f, b))...) {
				of(round.Nearest(f, inForm(x))).is(t, "Nearest of "+tell(inForm(x)), f, oracle.Rounded(f, x), api.OK)
			}
		}
		for k := range 300 {
			d := api.Dyadic{Man: api.Int{Neg: k%2 == 0, Mag: oracle.Mixed(k%5+1, uint64(k))}, Exp: (k - 150) * 15}
			d.Man.Mag[0] |= 1
			of(round.Nearest(f, d)).is(t, "Nearest of "+tell(d), f, oracle.Rounded(f, value(d)), api.OK)
		}
	}
}

func TestP8_1_APatternsOwnNumberGoesToIt(t *testing.T) {
	for _, f := range oracle.Formats() {
		for _, b := range oracle.Finite(f)[2:] {
			of(round.Nearest(f, inForm(oracle.ValueOf(f, b)))).is(t, "Nearest of a pattern's own number", f, b, api.OK)
		}
	}
}

func TestP8_1_Wrong(t *testing.T) {
	for _, d := range append(oracle.MisshapenDyadics(), n(4, 0)) {
		for _, f := range oracle.Formats() {
			of(round.Nearest(f, d)).fails(t, "Nearest of "+tell(d), f, api.ErrForm)
		}
		for _, f := range oracle.NoFormats() {
			of(round.Nearest(f, d)).fails(t, "Nearest of "+tell(d), f, api.ErrArg)
			of(round.Nearest(f, n(3, 0))).fails(t, "Nearest of 3", f, api.ErrArg)
			of(round.Nearest(f, n(0, 0))).fails(t, "Nearest of nought", f, api.ErrArg)
		}
	}
}

func decideIs(t *testing.T, f api.Format, s api.Span, want uint64, ok bool, e api.Errno) {
	t.Helper()
	if b, ok2, e2 := round.Decide(f, s); b != want || ok2 != ok || e2 != e {
		t.Errorf("Decide(%d, %s) = %#x, %v, error %d, want %#x, %v, error %d", f, tellSpan(s), b, ok2, e2, want, ok, e)
	}
}

func TestP8_2_Examples(t *testing.T) {
	for _, c := range []struct {
		f      api.Format
		lo, hi api.Dyadic
		want   uint64
		ok     bool
	}{
		{double, n(1, 0), n(1, 0), 0x3ff0000000000000, true},
		{double, n(1, 0), n(9007199254740993, -53), 0x3ff0000000000000, true},
		{double, n(18014398509481983, -54), n(9007199254740993, -53), 0x3ff0000000000000, true},
		{double, n(1, 0), n(3, -1), 0, false},
		{double, n(-1, -2000), n(0, 0), 0, false},
		{double, n(-1, -2000), n(1, -2000), 0, false},
		{double, n(-1, -maxExp), n(1, -maxExp), 0, false},
		{double, n(-1, -2000), n(-1, -3000), 1 << 63, true},
		{double, n(0, 0), n(0, 0), 0, true},
		{double, n(0, 0), n(1, -1075), 0, true},
		{double, n(0, 0), n(3, -1076), 0, false},
		{double, n(1, -1075), n(3, -1075), 0, false},
		{double, n(3, -1075), n(5, -1075), 2, true},
		{double, n(-1, -1075), n(-1, -maxExp), 1 << 63, true},
		{single, n(1, 200), n(1, 300), 0x7f800000, true},
		{single, n(-1, maxExp), n(1-1<<25, 103), 0xff800000, true},
		{single, n(1<<24-1, 104), n(1<<25-1, 103), 0, false},
		{single, n(1<<25-1, 103), n(1, maxExp), 0x7f800000, true},
		{double, n(-1, maxExp), n(1, maxExp), 0, false},
		{double, minus(long(8192, maxExp)), minus(long(8192, 0)), 0xfff0000000000000, true},
	} {
		decideIs(t, c.f, api.Span{Lo: c.lo, Hi: c.hi}, c.want, c.ok, api.OK)
	}
}

// cell: the ends of what rounds to a pattern other than a nought, by the library.
func cell(f api.Format, b uint64) (lo, hi *big.Rat) {
	near, far := oracle.Half(f, b-1), oracle.Half(f, b)
	if far.Sign() < 0 {
		return far, near
	}
	return near, far
}

// hairOf: a little of what lies between two numbers.
func hairOf(lo, hi *big.Rat) *big.Rat {
	hair := new(big.Rat).Sub(hi, lo)
	return hair.Mul(hair, new(big.Rat).SetFrac(big.NewInt(1), new(big.Int).Lsh(big.NewInt(1), 200)))
}

func sum(x, y *big.Rat) api.Dyadic { return inForm(new(big.Rat).Add(x, y)) }

func less(x, y *big.Rat) api.Dyadic { return inForm(new(big.Rat).Sub(x, y)) }

// Each part of a pattern's cell goes to it; what reaches a hair beyond does not; its ends do if it is even.
func TestP8_2_AboutCells(t *testing.T) {
	for _, f := range oracle.Formats() {
		for _, b := range oracle.Finite(f)[2:] {
			lo, hi := cell(f, b)
			hair := hairOf(lo, hi)
			within := api.Span{Lo: sum(lo, hair), Hi: less(hi, hair)}
			decideIs(t, f, within, b, true, api.OK)
			decideIs(t, f, api.Span{Lo: less(lo, hair), Hi: within.Hi}, 0, false, api.OK)
			decideIs(t, f, api.Span{Lo: within.Lo, Hi: sum(hi, hair)}, 0, false, api.OK)
			even := b%2 == 0
			want := b
			if !even {
				want = 0
			}
			decideIs(t, f, api.Span{Lo: inForm(lo), Hi: inForm(hi)}, want, even, api.OK)
			decideIs(t, f, api.Span{Lo: inForm(lo), Hi: within.Lo}, want, even, api.OK)
			decideIs(t, f, api.Span{Lo: within.Hi, Hi: inForm(hi)}, want, even, api.OK)
		}
	}
}

// misshapen: spans that are not in form.
func misshapen() []api.Span {
	out := []api.Span{{Lo: n(3, 0), Hi: n(1, 0)}, {Lo: n(0, 0), Hi: n(-1, -maxExp)}, {Lo: n(1, maxExp), Hi: n(1, -maxExp)}}
	for _, d := range oracle.MisshapenDyadics() {
		out = append(out, api.Span{Lo: d, Hi: d}, api.Span{Lo: d, Hi: n(1, maxExp)}, api.Span{Lo: n(-1, maxExp), Hi: d})
	}
	return out
}

func TestP8_2_Wrong(t *testing.T) {
	for _, s := range misshapen() {
		for _, f := range oracle.Formats() {
			decideIs(t, f, s, 0, false, api.ErrForm)
		}
		for _, f := range oracle.NoFormats() {
			decideIs(t, f, s, 0, false, api.ErrArg)
		}
	}
	for _, f := range oracle.NoFormats() {
		decideIs(t, f, api.Span{}, 0, false, api.ErrArg)
		decideIs(t, f, api.Span{Lo: n(1, 0), Hi: n(3, 0)}, 0, false, api.ErrArg)
	}
}

func cellIs(t *testing.T, f api.Format, b uint64, want api.Span, ends bool, e api.Errno) {
	t.Helper()
	if s, ends2, e2 := round.Cell(f, b); !same(s.Lo, want.Lo) || !same(s.Hi, want.Hi) || ends2 != ends || e2 != e {
		t.Errorf("Cell(%d, %#x) = %s, %v, error %d, want %s, %v, error %d", f, b, tellSpan(s), ends2, e2, tellSpan(want), ends, e)
	}
}

func TestP8_3_Cell(t *testing.T) {
	for _, c := range []struct {
		f      api.Format
		b      uint64
		lo, hi api.Dyadic
		ends   bool
	}{
		{double, 0x3ff0000000000000, n(18014398509481983, -54), n(9007199254740993, -53), true},
		{double, 0xbff0000000000000, n(-9007199254740993, -53), n(-18014398509481983, -54), true},
		{double, 1, n(1, -1075), n(3, -1075), false}, {double, 1<<63 + 1, n(-3, -1075), n(-1, -1075), false},
		{single, 1, n(1, -150), n(3, -150), false}, {single, 1<<31 + 2, n(-5, -150), n(-3, -150), true},
		{double, 0x7fefffffffffffff, n(1<<54-3, 970), n(1<<54-1, 970), false}, {single, 0xff7fffff, n(1-1<<25, 103), n(3-1<<25, 103), false},
		{double, 0x0010000000000000, n(1<<53-1, -1075), n(1<<53+1, -1075), true}, {single, 0x007fffff, n(1<<24-3, -150), n(1<<24-1, -150), false},
	} {
		cellIs(t, c.f, c.b, api.Span{Lo: c.lo, Hi: c.hi}, c.ends, api.OK)
	}
	for _, f := range oracle.Formats() {
		for _, b := range oracle.Finite(f)[2:] {
			lo, hi := cell(f, b)
			cellIs(t, f, b, api.Span{Lo: inForm(lo), Hi: inForm(hi)}, b%2 == 0, api.OK)
		}
	}
}

func TestP8_3_Wrong(t *testing.T) {
	for _, f := range oracle.Formats() {
		end := oracle.Infinity(f)
		for _, b := range append(oracle.NaNs(f), 0, oracle.Minus(f, 0), end, oracle.Minus(f, end)) {
			cellIs(t, f, b, api.Span{}, false, api.ErrClass)
		}
	}
	for _, b := range oracle.NoPatterns() {
		cellIs(t, single, b, api.Span{}, false, api.ErrForm)
		for _, f := range oracle.NoFormats() {
			cellIs(t, f, b, api.Span{}, false, api.ErrArg)
			cellIs(t, f, 1, api.Span{}, false, api.ErrArg)
			cellIs(t, f, 0, api.Span{}, false, api.ErrArg)
		}
	}
}

func TestP8_6_Narrow(t *testing.T) {
	for _, c := range []struct{ b, want uint64 }{
		{0x3ff6a09e667f3bcd, 0x3fb504f3}, {0x8000000000000001, 0x80000000}, {1, 0}, {0x7fefffffffffffff, 0x7f800000}, {0xffefffffffffffff, 0xff800000}, {0, 0}, {1 << 63, 1 << 31}, {0x7ff0000000000000, 0x7f800000}, {0xfff0000000000000, 0xff800000},
		{0x47efffffe0000000, 0x7f7fffff}, {0x47efffffefffffff, 0x7f7fffff}, {0x47effffff0000000, 0x7f800000}, {0xc7efffffefffffff, 0xff7fffff}, {0xc7effffff0000000, 0xff800000},
		{0x3690000000000000, 0}, {0x3690000000000001, 1}, {0xb690000000000000, 1 << 31}, {0xb690000000000001, 1<<31 + 1}, {0x36a8000000000000, 2}, {0x3ff0000010000000, 0x3f800000}, {0x3ff0000010000001, 0x3f800001}, {0x3ff0000030000000, 0x3f800002}, {0x380fffffe0000000, 0x00800000},
	} {
		of(round.Narrow(c.b)).is(t, "Narrow", double, c.want, api.OK)
	}
	for _, b := range oracle.Finite(double) {
		of(round.Narrow(b)).is(t, "Narrow", double, oracle.Bits(single, oracle.Float(double, b)), api.OK)
	}
	for _, b := range oracle.NaNs(double) {
		of(round.Narrow(b)).is(t, "Narrow", double, 0x7fc00001, api.OK)
	}
	for _, b := range oracle.Finite(single) {
		wide := math.Float64bits(oracle.Float(single, b))
		for _, near := range []uint64{wide, wide + 1, wide - 1, wide + 1<<28, wide + 1<<28 + 1, wide + 1<<28 - 1} {
			if x := math.Float64frombits(near); !math.IsNaN(x) {
				of(round.Narrow(near)).is(t, "Narrow", double, oracle.Bits(single, x), api.OK)
			}
		}
	}
}
