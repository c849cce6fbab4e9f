package refval_test

import (
	"math"
	"math/big"
	"strconv"
	"testing"

	"gnomon/api"
	"gnomon/nearpi"
	"gnomon/oracle"
	"gnomon/refval"
	"gnomon/span"
)

var functions = [...]api.Fn{api.Sin, api.Cos, api.Tan}

// extra is how many bits more than a span was asked for its value is told with here.
const extra = 100

func bitsOf(x float64) uint64 { return math.Float64bits(x) }

// both: patterns, of both signs.
func both(patterns ...uint64) []uint64 {
	var out []uint64
	for _, b := range patterns {
		out = append(out, b, b^1<<63)
	}
	return out
}

// hard: the number of a binade that comes nearest to a multiple of pi/2, where one function is very small or very great.
func hard(exp int) uint64 {
	a, _ := nearpi.Nearest(53, exp)
	return bitsOf(math.Ldexp(float64(a.Man), exp))
}

// edges: both noughts, the least and the greatest numbers, all four quadrants, at and beside 3/4, near multiples of pi/2 and of pi/4, 10^22.
func edges() []uint64 {
	out := []uint64{0, 1, 2, 0x000fffffffffffff, 0x0010000000000000, 0x7fefffffffffffff, 0x7feffffffffffffe, bitsOf(1e22), bitsOf(0.5), bitsOf(1e-5), bitsOf(0x1p-26), bitsOf(0x1p-27), hard(797)}
	for x := 1.0; x < 30; x++ {
		out = append(out, bitsOf(x), bitsOf(x/4))
	}
	for i := range 9 {
		for _, x := range []float64{math.Pi / 2 * float64(i+1), math.Pi / 4 * float64(2*i+1)} {
			out = append(out, bitsOf(x)-1, bitsOf(x), bitsOf(x)+1)
		}
	}
	for _, x := range []float64{0.75, 13.0 / 16, 1, 0x1p53, 0x1p1000} {
		out = append(out, bitsOf(x)-1, bitsOf(x), bitsOf(x)+1)
	}
	return both(out...)
}

// patterns: the edges, one hard number a binade, and many others.
func patterns() []uint64 {
	out := append(edges(), oracle.Finite(api.Double)...)
	for exp := -53; exp <= 971; exp++ {
		out = append(out, hard(exp), hard(exp)^1<<63)
	}
	return out
}

func TestP16_1_Examples(t *testing.T) {
	for _, c := range []struct {
		x             float64
		sin, cos, tan int
	}{
		{0, 0, 1, 0}, {math.Copysign(0, -1), 0, 1, 0}, {1, 1, 1, 1}, {-1, -1, 1, -1}, {2, 1, -1, -1}, {-2, -1, -1, 1}, {4, -1, -1, 1}, {-4, 1, -1, -1}, {5, -1, 1, -1}, {-5, 1, 1, 1},
		{math.Pi, 1, -1, -1}, {math.Nextafter(math.Pi, 4), -1, -1, 1}, {math.Pi / 2, 1, 1, 1}, {math.Nextafter(math.Pi/2, 4), 1, -1, -1}, {0x1p-1074, 1, 1, 1}, {-0x1p-1074, -1, 1, -1},
	} {
		for i, want := range []int{c.sin, c.cos, c.tan} {
			if sign, e := refval.Sign(functions[i], bitsOf(c.x)); sign != want || e != api.OK {
				t.Errorf("Sign(%d, %v) is %d, error %d", functions[i], c.x, sign, e)
			}
		}
	}
}

func TestP16_1_Sign(t *testing.T) {
	circle := oracle.Around(extra)
	for _, b := range patterns() {
		v := circle.Radians(b)
		for _, fn := range functions {
			sign, e := refval.Sign(fn, b)
			if e != api.OK || sign != v.Of(fn).Sign {
				t.Errorf("Sign(%d, %x) is %d, error %d", fn, b, sign, e)
			}
			if nought := b<<1 == 0 && fn != api.Cos; nought != (sign == 0) {
				t.Errorf("Sign(%d, %x) is %d", fn, b, sign)
			}
		}
	}
}

// right looks whether Enclose(fn, b, p), of an x other than nought, is all that P16.2 and P16.3 ask for.
func right(t *testing.T, fn api.Fn, b uint64, p int, v oracle.Real) {
	t.Helper()
	s, e := refval.Enclose(fn, b, p)
	if e != api.OK || !span.Form(s) || !v.Holds(s) {
		t.Errorf("Enclose(%d, %x, %d) is %s, error %d", fn, b, p, oracle.TellSpan(s), e)
		return
	}
	if !oracle.Thin(s, p) || !oracle.On(s, v.Sign) {
		t.Errorf("Enclose(%d, %x, %d) is too wide: %s", fn, b, p, oracle.TellSpan(s))
	}
	if !oracle.Short(s, p+64) || fn != api.Tan && !oracle.WithinOne(s) {
		t.Errorf("Enclose(%d, %x, %d) has other ends than it may have: %s", fn, b, p, oracle.TellSpan(s))
	}
}

func allRight(t *testing.T, patterns []uint64, p int) {
	t.Helper()
	circle := oracle.Around(p + extra)
	for _, b := range patterns {
		v := circle.Radians(b)
		for _, fn := range functions {
			right(t, fn, b, p, v.Of(fn))
		}
	}
}

func TestP16_2_P16_3_Enclose(t *testing.T) {
	for _, p := range []int{1, 5, 53, 300} {
		t.Run(strconv.Itoa(p), func(t *testing.T) {
			t.Parallel()
			allRight(t, patterns(), p)
		})
	}
}

func TestP16_2_P16_3_EveryPrecision(t *testing.T) {
	few := []uint64{1, bitsOf(0.75), bitsOf(-0.7500000000000001), bitsOf(1), bitsOf(-math.Pi), bitsOf(4), bitsOf(-1e22), hard(797), 0x7fefffffffffffff}
	for p := 1; p <= 260; p++ {
		allRight(t, few, p)
	}
}

func TestP16_2_P16_3_AtMaxRung(t *testing.T) {
	for _, b := range []uint64{1, bitsOf(-0.75), bitsOf(2), bitsOf(-1e22), hard(797), 0xffefffffffffffff} {
		t.Run(strconv.FormatUint(b, 16), func(t *testing.T) {
			t.Parallel()
			allRight(t, []uint64{b}, api.MaxRung)
		})
	}
}

func TestP16_2_Nought(t *testing.T) {
	one := oracle.Fields(1, 0)
	for _, b := range both(0) {
		for _, p := range []int{1, 2, 100, 5000, api.MaxRung} {
			for i, want := range []api.Dyadic{{}, one, {}} {
				s, e := refval.Enclose(functions[i], b, p)
				if e != api.OK || !oracle.Same(s.Lo, want) || !oracle.Same(s.Hi, want) {
					t.Errorf("Enclose(%d, %x, %d) is %s, error %d", functions[i], b, p, oracle.TellSpan(s), e)
				}
			}
		}
	}
}

// The chapter's own number: sin 1 = 0.84147098480789650665.., at 20 bits at most 0.00000081 wide.
func TestP16_2_Example(t *testing.T) {
	s, e := refval.Enclose(api.Sin, bitsOf(1), 20)
	sine, _ := new(big.Rat).SetString("0.84147098480789650665")
	wide, _ := new(big.Rat).SetString("0.00000081")
	lo, hi := oracle.Value(s.Lo), oracle.Value(s.Hi)
	if e != api.OK || lo.Cmp(sine) > 0 || hi.Cmp(sine) < 0 || hi.Sub(hi, lo).Cmp(wide) > 0 {
		t.Errorf("Enclose(Sin, 1, 20) is %s, error %d", oracle.TellSpan(s), e)
	}
}

// Spans of one value have a number in common, and their ends the sign that Sign tells.
func TestP16_2_SpansMeet(t *testing.T) {
	for _, b := range append(edges(), hard(0), hard(100), hard(971)) {
		for _, fn := range functions {
			sign, _ := refval.Sign(fn, b)
			var spans []api.Span
			for _, p := range []int{1, 2, 9, 64, 128, 500, 2000} {
				s, _ := refval.Enclose(fn, b, p)
				if !oracle.On(s, sign) {
					t.Errorf("Enclose(%d, %x, %d) is not on the side that Sign tells: %s", fn, b, p, oracle.TellSpan(s))
				}
				for _, other := range spans {
					if _, meet, e := span.Meet(s, other); !meet || e != api.OK {
						t.Errorf("the spans of function %d of %x are apart: %s, %s", fn, b, oracle.TellSpan(other), oracle.TellSpan(s))
					}
				}
				spans = append(spans, s)
			}
		}
	}
}

// fails looks whether Enclose answers that error alone.
func fails(t *testing.T, fn api.Fn, b uint64, p int, want api.Errno) {
	t.Helper()
	s, e := refval.Enclose(fn, b, p)
	if e != want || !oracle.Same(s.Lo, api.Dyadic{}) || !oracle.Same(s.Hi, api.Dyadic{}) {
		t.Errorf("Enclose(%d, %x, %d) is %s, error %d", fn, b, p, oracle.TellSpan(s), e)
	}
}

func signFails(t *testing.T, fn api.Fn, b uint64, want api.Errno) {
	t.Helper()
	if sign, e := refval.Sign(fn, b); sign != 0 || e != want {
		t.Errorf("Sign(%d, %x) is %d, error %d", fn, b, sign, e)
	}
}

func TestErrors16(t *testing.T) {
	finite := append(both(0, 1, bitsOf(0.5), bitsOf(1)), 0x7fefffffffffffff)
	others := append(oracle.NaNs(api.Double), both(oracle.Infinity(api.Double))...)
	for _, b := range append(finite, others...) {
		for _, fn := range []api.Fn{0, -1, api.SinPi, api.CosPi, api.TanPi, 7, 257, 1<<32 + 1, math.MaxInt, math.MinInt} {
			signFails(t, fn, b, api.ErrArg)
			for _, p := range []int{-1, 0, 1, 50, api.MaxRung, api.MaxRung + 1} {
				fails(t, fn, b, p, api.ErrArg)
			}
		}
		for _, fn := range functions {
			for _, p := range []int{0, -1, -64, api.MaxRung + 1, api.MaxSeries, api.MaxPrec, 1 << 32, 1<<32 + 5, math.MaxInt, math.MinInt} {
				fails(t, fn, b, p, api.ErrArg)
			}
		}
	}
	for _, b := range others {
		for _, fn := range functions {
			signFails(t, fn, b, api.ErrClass)
			for _, p := range []int{1, 50, api.MaxRung} {
				fails(t, fn, b, p, api.ErrClass)
			}
		}
	}
}
