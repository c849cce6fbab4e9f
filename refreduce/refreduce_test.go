package refreduce_test

import (
	"math"
	"math/big"
	"slices"
	"testing"

	"gnomon/api"
	"gnomon/nearpi"
	"gnomon/oracle"
	"gnomon/refreduce"
	"gnomon/span"
)

// scale is pi/2 counted in 2^-places, rounded down, by another way than the layers' own.
type scale struct {
	half   *big.Int
	places int
}

// at: a scale on which remainders are told to p bits and a hundred more, of the greatest numbers too.
func at(p int) scale {
	places := p + 1200
	return scale{oracle.Pi(places - 1), places}
}

// number: x on the scale.
func (s scale) number(b uint64) *big.Int {
	x := oracle.ValueOf(api.Double, b)
	x.Mul(x, new(big.Rat).SetInt(new(big.Int).Lsh(big.NewInt(1), uint(s.places))))
	return new(big.Int).Quo(x.Num(), x.Denom())
}

// remainder: two numbers on the scale between which x - k*pi/2 lies.
func (s scale) remainder(b uint64, k *big.Int) (low, high *big.Int) {
	high = new(big.Int).Mul(k, s.half)
	high.Sub(s.number(b), high)
	low = new(big.Int).Sub(high, k)
	if k.Sign() < 0 {
		return high, low
	}
	return low, high
}

// multiple: the k nearest to x. It is certain, as x lies nearer to half way by far than the scale is off, or else the test stops.
func (s scale) multiple(t *testing.T, b uint64) *big.Int {
	t.Helper()
	twice := s.number(b)
	twice.Lsh(twice, 1).Add(twice, s.half)
	k := new(big.Int).Div(twice, new(big.Int).Lsh(s.half, 1)) // Euclid's quotient is the floor here
	low, high := s.remainder(b, k)
	quarter := new(big.Int).Rsh(s.half, 1)
	if low.CmpAbs(quarter) >= 0 || high.CmpAbs(quarter) >= 0 {
		t.Fatalf("no multiple is certain to be the nearest to %x", b)
	}
	return k
}

func bitsOf(x float64) uint64 { return math.Float64bits(x) }

// beside: patterns and their neighbours on both sides, of both signs.
func beside(patterns ...uint64) []uint64 {
	var out []uint64
	for _, b := range patterns {
		for _, c := range []uint64{b - 2, b - 1, b, b + 1, b + 2} {
			out = append(out, c, c|1<<63)
		}
	}
	return out
}

// hard: for every exponent the number nearest to a multiple of pi/2, and half of it: where the multiple is odd, that is the one nearest to half way between two.
func hard() []uint64 {
	var out []uint64
	for exp := -52; exp <= 971; exp++ {
		a, _ := nearpi.Nearest(53, exp)
		x := math.Ldexp(float64(a.Man), exp)
		out = append(out, bitsOf(x), bitsOf(-x/2))
	}
	return out
}

// patterns: the edges that the chapter names, and many others.
func patterns() []uint64 {
	out := []uint64{0, 1 << 63, 1, 1<<63 | 1, 0x7fefffffffffffff, 0xffefffffffffffff, bitsOf(1e22), bitsOf(-1e22), bitsOf(100), bitsOf(-100), bitsOf(25.0 / 32)}
	out = append(out, beside(bitsOf(0.75), bitsOf(13.0/16), bitsOf(1), bitsOf(math.Pi/2), bitsOf(math.Pi), bitsOf(0x1p53), bitsOf(0x1p1000))...)
	for i := range 40 {
		out = append(out, beside(bitsOf(float64(2*i+1)*(math.Pi/4)))...)
	}
	return append(append(out, oracle.Finite(api.Double)...), hard()...)
}

func TestP14_1_Examples(t *testing.T) {
	for _, c := range []struct {
		b    uint64
		want int64
	}{
		{0x3ff0000000000000, 1}, {0x3fe8000000000000, 0}, {0xbff0000000000000, -1}, {0x4059000000000000, 64}, {0xc059000000000000, -64}, {0x8000000000000000, 0}, {0, 0}, {1, 0}, {1<<63 | 1, 0}, {0x3fe921fb54442d18, 0}, {0xbfe921fb54442d18, 0}, {0x3fe921fb54442d19, 1}, {0xbfe921fb54442d19, -1},
	} {
		if k, e := refreduce.Multiple(c.b); e != api.OK || oracle.Whole(k).Cmp(big.NewInt(c.want)) != 0 {
			t.Errorf("Multiple(%x) is %v, error %d", c.b, k, e)
		}
	}
	want, _ := new(big.Int).SetString("6366197723675813430755", 10)
	if k, e := refreduce.Multiple(0x4480f0cf064dd592); e != api.OK || oracle.Whole(k).Cmp(want) != 0 {
		t.Errorf("Multiple(1e22) is %v, error %d", k, e)
	}
}

func TestP14_1_Nearest(t *testing.T) {
	s := at(200)
	for _, b := range patterns() {
		want := oracle.Int(s.multiple(t, b))
		if k, e := refreduce.Multiple(b); e != api.OK || k.Neg != want.Neg || !slices.Equal(k.Mag, want.Mag) {
			t.Errorf("Multiple(%x) is %v, error %d; want %v", b, k, e, want)
		}
	}
}

func TestP14_2_Small(t *testing.T) {
	for _, b := range patterns() {
		x := math.Float64frombits(b)
		if math.Abs(x) > 0.75 {
			continue
		}
		want := oracle.Dyadic(oracle.ValueOf(api.Double, b))
		for _, p := range []int{1, 2, 5, 1000, api.MaxReduce} {
			q, s, e := refreduce.Reduce(b, p)
			if e != api.OK || q != 0 || !oracle.Same(s.Lo, want) || !oracle.Same(s.Hi, want) {
				t.Errorf("Reduce(%x, %d) is %d, %s, error %d", b, p, q, oracle.TellSpan(s), e)
			}
		}
	}
}

// onScale: an end of a span on the scale, which is finer than the end's grid.
func (s scale) onScale(d api.Dyadic) *big.Int {
	return oracle.Shifted(oracle.Whole(d.Man), d.Exp+s.places)
}

// holds: does the span hold x - k*pi/2 for a k with that quadrant? Of the three multiples about x.
func (s scale) holds(t *testing.T, b uint64, q int, a api.Span) bool {
	t.Helper()
	near := s.multiple(t, b)
	for step := int64(-1); step <= 1; step++ {
		k := new(big.Int).Add(near, big.NewInt(step))
		low, high := s.remainder(b, k)
		if new(big.Int).Mod(k, big.NewInt(4)).Int64() == int64(q) && s.onScale(a.Lo).Cmp(low) <= 0 && s.onScale(a.Hi).Cmp(high) >= 0 {
			return true
		}
	}
	return false
}

// right looks whether Reduce(b, p), of a number above 3/4 by size, is all that P14.3 asks for.
func right(t *testing.T, s scale, b uint64, p int) {
	t.Helper()
	q, a, e := refreduce.Reduce(b, p)
	if e != api.OK || q < 0 || q > 3 || !span.Form(a) {
		t.Errorf("Reduce(%x, %d) is %d, %s, error %d", b, p, q, oracle.TellSpan(a), e)
		return
	}
	bound := new(big.Int).Lsh(big.NewInt(13), uint(s.places-4))
	for _, d := range []api.Dyadic{a.Lo, a.Hi} {
		if d.Exp < -p-8 || s.onScale(d).CmpAbs(bound) > 0 {
			t.Errorf("Reduce(%x, %d): the end %s", b, p, oracle.Tell(d))
		}
	}
	width := new(big.Int).Sub(s.onScale(a.Hi), s.onScale(a.Lo))
	if width.Cmp(new(big.Int).Lsh(big.NewInt(1), uint(s.places-p))) > 0 {
		t.Errorf("Reduce(%x, %d) is too wide: %s", b, p, oracle.TellSpan(a))
	}
	if !s.holds(t, b, q, a) {
		t.Errorf("Reduce(%x, %d) is %d, %s: no multiple has that remainder", b, p, q, oracle.TellSpan(a))
	}
}

func TestP14_3_Reduce(t *testing.T) {
	all := patterns()
	for _, p := range []int{1, 20, 130} {
		s := at(p)
		for _, b := range all {
			if math.Abs(math.Float64frombits(b)) > 0.75 {
				right(t, s, b, p)
			}
		}
	}
}

func TestP14_3_EveryPrecision(t *testing.T) {
	few := []uint64{bitsOf(0.7500000000000001), bitsOf(-1), bitsOf(3), bitsOf(25.0 / 32), bitsOf(-13.0 / 16), bitsOf(math.Pi / 4), bitsOf(-1e22), 0x7fefffffffffffff}
	for p := 1; p <= 300; p++ {
		s := at(p)
		for _, b := range few {
			right(t, s, b, p)
		}
	}
}

func TestP14_3_AtMaxReduce(t *testing.T) {
	worst, _ := nearpi.Nearest(53, 797)
	s := at(api.MaxReduce)
	for _, b := range []uint64{bitsOf(0.7500000000000001), bitsOf(-1), bitsOf(1e22), 0xffefffffffffffff, bitsOf(math.Ldexp(float64(worst.Man), 797))} {
		right(t, s, b, api.MaxReduce)
	}
}

func TestP14_3_Examples(t *testing.T) {
	s := at(100)
	if q, _, e := refreduce.Reduce(0x4480f0cf064dd592, 100); q != 3 || e != api.OK {
		t.Errorf("Reduce(1e22, 100) has the quadrant %d, error %d", q, e)
	}
	right(t, s, 0x4480f0cf064dd592, 100)
	if q, _, e := refreduce.Reduce(0x3fe9000000000000, 20); q > 1 || e != api.OK {
		t.Errorf("Reduce(25/32, 20) has the quadrant %d, error %d", q, e)
	}
	for x, want := range map[float64]int{1: 1, -1: 3, 3: 2, -3: 2, 4.5: 3, -4.5: 1, 6: 0, -6: 0} {
		if q, _, e := refreduce.Reduce(bitsOf(x), 20); q != want || e != api.OK {
			t.Errorf("Reduce(%v, 20) has the quadrant %d, error %d", x, q, e)
		}
	}
}

func TestErrors14(t *testing.T) {
	finite := []uint64{0, 1 << 63, 1, bitsOf(0.5), bitsOf(1), 0x7fefffffffffffff}
	others := append(oracle.NaNs(api.Double), oracle.Infinity(api.Double), oracle.Minus(api.Double, oracle.Infinity(api.Double)))
	fails := func(b uint64, p int, want api.Errno) {
		q, s, e := refreduce.Reduce(b, p)
		if q != 0 || !oracle.Same(s.Lo, api.Dyadic{}) || !oracle.Same(s.Hi, api.Dyadic{}) || e != want {
			t.Errorf("Reduce(%x, %d) is %d, %s, error %d", b, p, q, oracle.TellSpan(s), e)
		}
	}
	for _, p := range []int{0, -1, -64, api.MaxReduce + 1, api.MaxPrec, 1 << 32, 1<<32 + 5, math.MaxInt, math.MinInt} {
		for _, b := range append(finite, others...) {
			fails(b, p, api.ErrArg)
		}
	}
	for _, b := range others {
		for _, p := range []int{1, 5, 64, api.MaxReduce} {
			fails(b, p, api.ErrClass)
		}
		if k, e := refreduce.Multiple(b); e != api.ErrClass || k.Neg || len(k.Mag) != 0 {
			t.Errorf("Multiple(%x) is %v, error %d", b, k, e)
		}
	}
}
