package turn_test

import (
	"math"
	"math/big"
	"strconv"
	"testing"

	"gnomon/api"
	"gnomon/dyadic"
	"gnomon/oracle"
	"gnomon/span"
	"gnomon/turn"
)

var functions = [...]api.Fn{api.SinPi, api.CosPi, api.TanPi}

// extra is how many bits more than a span was asked for its value is told with here.
const extra = 100

func bitsOf(x float64) uint64 { return math.Float64bits(x) }

// patterns: finite ones of both signs: the eighths and what stands beside them, tiny and great numbers, and many others.
func patterns(f api.Format) []uint64 {
	out := oracle.Finite(f)
	for _, x := range oracle.Eighths(f) {
		for _, b := range []uint64{oracle.Bits(f, x), oracle.Bits(f, -x)} {
			out = append(out, b, b+1)
			if x != 0 {
				out = append(out, b-1)
			}
		}
	}
	if f == api.Double {
		out = append(out, bitsOf(1e22), bitsOf(-1e22), bitsOf(0.1), bitsOf(1.1), bitsOf(-2.9), bitsOf(123456.789), bitsOf(-0x1p40-0x1p-12))
	}
	return out
}

func TestP17_1_Examples(t *testing.T) {
	for _, c := range []struct {
		b    uint64
		q    int
		m, e int
	}{
		{0x3fd0000000000000, 1, -1, -2}, {0xbfd0000000000000, 0, -1, -2}, {0x3ff0000000000000, 2, 0, 0}, {0xbfe0000000000000, 3, 0, 0}, {0x4480f0cf064dd592, 0, 0, 0}, {1, 0, 1, -1074}, {1<<63 | 1, 0, -1, -1074}, {0, 0, 0, 0}, {1 << 63, 0, 0, 0}, {bitsOf(0.75), 2, -1, -2}, {bitsOf(-0.75), 3, -1, -2}, {bitsOf(0.625), 1, 1, -3}, {bitsOf(-1.125), 2, -1, -3}, {0x7fefffffffffffff, 0, 0, 0},
	} {
		q, r, e := turn.Reduce(c.b)
		if e != api.OK || q != c.q || !oracle.Same(r, oracle.Fields(c.m, c.e)) {
			t.Errorf("Reduce(%x) is %d, %s, error %d", c.b, q, oracle.Tell(r), e)
		}
	}
}

func TestP17_1_Reduce(t *testing.T) {
	quarter := big.NewRat(1, 4)
	for _, b := range patterns(api.Double) {
		q, r, e := turn.Reduce(b)
		if e != api.OK || !dyadic.Form(r) {
			t.Errorf("Reduce(%x) is %d, %s, error %d", b, q, oracle.Tell(r), e)
			continue
		}
		left := oracle.Value(r)
		k := new(big.Rat).Sub(oracle.ValueOf(api.Double, b), left)
		k.Add(k, k)
		if !k.IsInt() || new(big.Int).Mod(k.Num(), big.NewInt(4)).Int64() != int64(q) {
			t.Errorf("Reduce(%x) is %d, %s: twice what r leaves of x is %s", b, q, oracle.Tell(r), k)
		}
		if left.Cmp(quarter) >= 0 || left.Cmp(new(big.Rat).Neg(quarter)) < 0 {
			t.Errorf("Reduce(%x): %s is not from -1/4 on and below 1/4", b, oracle.Tell(r))
		}
	}
}

func TestP17_2_Finite(t *testing.T) {
	for _, f := range oracle.Formats() {
		for _, b := range patterns(f) {
			x := oracle.ValueOf(f, b)
			if x.Sign() == 0 {
				continue
			}
			for _, fn := range functions {
				value, ok := oracle.ExactTurn(fn, x)
				want := oracle.Bits(f, value)
				if got, yes, e := turn.Exact(f, fn, b); got != want || yes != ok || e != api.OK {
					t.Errorf("Exact(%d, %d, %x) is %x, %v, error %d; want %x, %v", f, fn, b, got, yes, e, want, ok)
				}
			}
		}
	}
}

func TestP17_2_NoughtsAndOthers(t *testing.T) {
	for f, quiet := range map[api.Format]uint64{api.Single: 0x7fc00001, api.Double: 0x7ff8000000000001} {
		infinity := oracle.Infinity(f)
		for _, b := range append(oracle.NaNs(f), infinity, oracle.Minus(f, infinity)) {
			for _, fn := range functions {
				if got, ok, e := turn.Exact(f, fn, b); got != quiet || !ok || e != api.OK {
					t.Errorf("Exact(%d, %d, %x) is %x, %v, error %d", f, fn, b, got, ok, e)
				}
			}
		}
		for _, b := range []uint64{0, oracle.Minus(f, 0)} {
			for i, want := range []uint64{b, oracle.Bits(f, 1), b} {
				if got, ok, e := turn.Exact(f, functions[i], b); got != want || !ok || e != api.OK {
					t.Errorf("Exact(%d, %d, %x) is %x, %v, error %d", f, functions[i], b, got, ok, e)
				}
			}
		}
	}
}

func TestP17_2_Examples(t *testing.T) {
	const one, minus, inf = 0x3ff0000000000000, uint64(1) << 63, uint64(0x7ff0000000000000)
	for _, c := range []struct {
		fn   api.Fn
		x    float64
		want uint64
		ok   bool
	}{
		{api.SinPi, 1, 0, true}, {api.SinPi, -1, minus, true}, {api.SinPi, 1.5, minus | one, true}, {api.SinPi, 0.25, 0, false}, {api.CosPi, 0.5, 0, true}, {api.CosPi, -0.5, 0, true}, {api.CosPi, math.Copysign(0, -1), one, true}, {api.CosPi, 3, minus | one, true}, {api.CosPi, 0.25, 0, false},
		{api.TanPi, 1, minus, true}, {api.TanPi, -2, minus, true}, {api.TanPi, 2, 0, true}, {api.TanPi, -1, 0, true}, {api.TanPi, 0.5, inf, true}, {api.TanPi, -0.5, minus | inf, true}, {api.TanPi, 0.75, minus | one, true}, {api.TanPi, -0.25, minus | one, true}, {api.TanPi, 0.25, one, true}, {api.TanPi, 0.125, 0, false}, {api.SinPi, math.Inf(-1), 0x7ff8000000000001, true},
	} {
		if b, ok, e := turn.Exact(api.Double, c.fn, bitsOf(c.x)); b != c.want || ok != c.ok || e != api.OK {
			t.Errorf("Exact(Double, %d, %v) is %x, %v, error %d", c.fn, c.x, b, ok, e)
		}
	}
	if b, ok, e := turn.Exact(api.Single, api.SinPi, 0x3fc00000); b != 0xbf800000 || !ok || e != api.OK {
		t.Errorf("Exact(Single, SinPi, 3/2) is %x, %v, error %d", b, ok, e)
	}
}

// point: is s the span of the float x alone?
func point(s api.Span, x float64) bool {
	want := oracle.Fields(int(x), 0)
	return oracle.Same(s.Lo, want) && oracle.Same(s.Hi, want)
}

// right looks whether Enclose(fn, b, p) is all that P17.3 and P17.4 ask for.
func right(t *testing.T, fn api.Fn, b uint64, p int, v oracle.Real) {
	t.Helper()
	s, e := turn.Enclose(fn, b, p)
	value, ok := oracle.ExactTurn(fn, oracle.ValueOf(api.Double, b))
	switch {
	case ok && math.IsInf(value, 0):
		if e != api.ErrClass || !point(s, 0) {
			t.Errorf("Enclose(%d, %x, %d), of a pole, is %s, error %d", fn, b, p, oracle.TellSpan(s), e)
		}
	case ok:
		if e != api.OK || !point(s, value) {
			t.Errorf("Enclose(%d, %x, %d), of %v, is %s, error %d", fn, b, p, value, oracle.TellSpan(s), e)
		}
	case e != api.OK || !span.Form(s) || !v.Holds(s):
		t.Errorf("Enclose(%d, %x, %d) is %s, error %d", fn, b, p, oracle.TellSpan(s), e)
	case !oracle.Thin(s, p) || !oracle.On(s, v.Sign) || !oracle.Short(s, p+64):
		t.Errorf("Enclose(%d, %x, %d) is too wide or too long: %s", fn, b, p, oracle.TellSpan(s))
	}
}

func allRight(t *testing.T, patterns []uint64, p int) {
	t.Helper()
	circle := oracle.Around(p + extra)
	for _, b := range patterns {
		v := circle.Turns(b)
		for _, fn := range functions {
			right(t, fn, b, p, v.Of(fn))
		}
	}
}

func TestP17_3_P17_4_Enclose(t *testing.T) {
	for _, p := range []int{1, 2, 5, 53, 300, 900} {
		t.Run(strconv.Itoa(p), func(t *testing.T) {
			t.Parallel()
			allRight(t, patterns(api.Double), p)
		})
	}
}

func TestP17_3_P17_4_EveryPrecision(t *testing.T) {
	few := []uint64{1, bitsOf(-1e-300), bitsOf(0.25), bitsOf(0.25) - 1, bitsOf(0.5) + 1, bitsOf(-0.5) - 1, bitsOf(1) - 1, bitsOf(-2) + 1, bitsOf(0.625), bitsOf(0x1p49 + 0.125), bitsOf(1.5), bitsOf(-0.75)}
	for p := 1; p <= 260; p++ {
		allRight(t, few, p)
	}
}

func TestP17_3_P17_4_AtMaxRung(t *testing.T) {
	exact := []uint64{0, 1 << 63, bitsOf(0.5), bitsOf(-1), bitsOf(1.5), bitsOf(2), bitsOf(1e22)}
	for _, list := range [][]uint64{exact, {1, bitsOf(-0.25)}, {bitsOf(0.75), bitsOf(0.5) + 1}, {bitsOf(-3) - 1}, {bitsOf(0x1p49 - 0.375)}, {bitsOf(-1e-300)}} {
		t.Run(strconv.FormatUint(list[0], 16), func(t *testing.T) {
			t.Parallel()
			allRight(t, list, api.MaxRung)
		})
	}
}

// At quarters and eighths the values are roots: sin^2(pi/4) = 1/2, and tan(pi/8) is the x above nought with (x + 1)^2 = 2.
func TestP17_4_Roots(t *testing.T) {
	half := oracle.Fields(1, -1)
	for _, p := range []int{1, 7, 53, 500, 5000} {
		for _, c := range []struct {
			fn api.Fn
			x  float64
		}{{api.SinPi, 0.25}, {api.CosPi, 0.25}, {api.SinPi, -0.75}, {api.CosPi, 1.25}} {
			s, e := turn.Enclose(c.fn, bitsOf(c.x), p)
			square, _ := span.Sqr(s, 2*p+200)
			if has, _ := span.Has(square, half); e != api.OK || !has || !oracle.Thin(s, p) {
				t.Errorf("Enclose(%d, %v, %d) is %s, error %d", c.fn, c.x, p, oracle.TellSpan(s), e)
			}
		}
		s, e := turn.Enclose(api.TanPi, bitsOf(0.125), p)
		one, _ := span.Point(dyadic.Of(1))
		sum, _ := span.Add(s, one, p+200)
		square, _ := span.Sqr(sum, 2*p+500)
		if has, _ := span.Has(square, dyadic.Of(2)); e != api.OK || !has || !oracle.On(s, 1) {
			t.Errorf("Enclose(TanPi, 1/8, %d) is %s, error %d", p, oracle.TellSpan(s), e)
		}
	}
}

// Spans of one value, for unlike p, have that value in common.
func TestP17_4_SpansMeet(t *testing.T) {
	for _, b := range append(patterns(api.Double)[:60], 1, bitsOf(0.25)-1, bitsOf(0.5)+1, bitsOf(-1)-1, bitsOf(1e-300)) {
		for _, fn := range functions {
			var spans []api.Span
			for _, p := range []int{1, 2, 9, 64, 128, 500} {
				s, _ := turn.Enclose(fn, b, p)
				for _, other := range spans {
					if _, meet, e := span.Meet(s, other); !meet || e != api.OK {
						t.Errorf("the spans of function %d of %x are apart: %s, %s", fn, b, oracle.TellSpan(other), oracle.TellSpan(s))
					}
				}
				spans = append(spans, s)
			}
		}
	}
}
