package taylor_test

import (
	"math"
	"testing"

	"gnomon/api"
	"gnomon/oracle"
	"gnomon/span"
	"gnomon/taylor"
)

// ends: numbers of both signs, from -1 to 1, in their order, nought among them.
func ends() []api.Dyadic {
	sizes := []api.Dyadic{
		number(1, -524288), number(3, -524289), number(1, -2000), number(1, -60), oracle.Gap(9, -64*9-30), number(1, -10), number(1, -2), number(1, -1), oracle.Gap(api.MaxLimbs, -64*api.MaxLimbs), number(3, -2), number(51, -6), number(13, -4), oracle.Long(3, -64*3), one,
	}
	var out []api.Dyadic
	for i := range sizes {
		out = append(out, oracle.Opposite(sizes[len(sizes)-1-i]))
	}
	return append(append(out, api.Dyadic{}), sizes...)
}

// told is a number of ends and its sine and cosine.
type told struct {
	x        api.Dyadic
	sin, cos value
}

func tellAll(p int) []told {
	var out []told
	for _, x := range ends() {
		a := told{x: x}
		a.sin, a.cos = waves(x, p)
		out = append(out, a)
	}
	return out
}

func sign(d api.Dyadic) int {
	switch {
	case d.Man.Neg:
		return -1
	case len(d.Man.Mag) > 0:
		return 1
	}
	return 0
}

// lowest: is d at most sin x, and hardly below it? highest: the same from above.
func (a told) lowest(d api.Dyadic, p int) bool {
	if sign(d) != sign(a.x) {
		return false
	}
	return sign(d) == 0 || sign(d) > 0 && a.sin.below(d, p) || sign(d) < 0 && a.sin.above(d, p)
}

func (a told) highest(d api.Dyadic, p int) bool {
	if sign(d) != sign(a.x) {
		return false
	}
	return sign(d) == 0 || sign(d) > 0 && a.sin.above(d, p) || sign(d) < 0 && a.sin.below(d, p)
}

func TestP15_3_P15_4_Over(t *testing.T) {
	for _, p := range []int{1, 2, 9, 53, 120} {
		all := tellAll(p)
		nought := len(all) / 2
		for i, lo := range all {
			for k, hi := range all[i:] {
				s := api.Span{Lo: lo.x, Hi: hi.x}
				got, e := taylor.SinOver(s, p)
				if e != api.OK || !shapely(got, p) || !lo.lowest(got.Lo, p) || !hi.highest(got.Hi, p) {
					t.Errorf("SinOver(%s, %d) is %s, error %d", oracle.TellSpan(s), p, oracle.TellSpan(got), e)
				}
				near, far := all[min(max(nought, i), i+k)], lo // of the places from i to i+k the one nearest to nought's
				if i+k-nought > nought-i {
					far = hi
				}
				got, e = taylor.CosOver(s, p)
				if e != api.OK || !shapely(got, p) || sign(got.Lo) <= 0 || !far.cos.below(got.Lo, p) || !near.cos.above(got.Hi, p) {
					t.Errorf("CosOver(%s, %d) is %s, error %d", oracle.TellSpan(s), p, oracle.TellSpan(got), e)
				}
			}
		}
	}
}

// A span that holds nought has the cosine 1 in it, whatever its ends are; one that doesn't may end below 1.
func TestP15_4_HiIsOne(t *testing.T) {
	for _, s := range []api.Span{{Lo: number(-1, -1), Hi: one}, {Lo: number(-1, 0), Hi: number(1, -524288)}, {Hi: one}, {Lo: oracle.Opposite(one)}, {Lo: number(-1, -524288), Hi: number(1, -524288)}, {}} {
		for _, p := range []int{1, 9, 10, 200} {
			if got, e := taylor.CosOver(s, p); e != api.OK || !oracle.Same(got.Hi, one) || !shapely(got, p) {
				t.Errorf("CosOver(%s, %d) is %s, error %d", oracle.TellSpan(s), p, oracle.TellSpan(got), e)
			}
		}
	}
	got, _ := taylor.CosOver(api.Span{Lo: number(1, -1), Hi: one}, 10)
	if oracle.Same(got.Hi, one) {
		t.Errorf("CosOver([1/2, 1], 10) goes up to 1")
	}
}

func TestP15_3_NoughtStays(t *testing.T) {
	for _, p := range []int{1, 10, 300} {
		if s, e := taylor.SinOver(api.Span{Hi: one}, p); e != api.OK || sign(s.Lo) != 0 || sign(s.Hi) <= 0 {
			t.Errorf("SinOver([0, 1], %d) is %s, error %d", p, oracle.TellSpan(s), e)
		}
		if s, e := taylor.SinOver(api.Span{Lo: oracle.Opposite(one)}, p); e != api.OK || sign(s.Hi) != 0 || sign(s.Lo) >= 0 {
			t.Errorf("SinOver([-1, 0], %d) is %s, error %d", p, oracle.TellSpan(s), e)
		}
		if s, e := taylor.SinOver(api.Span{}, p); e != api.OK || !empty(s) {
			t.Errorf("SinOver([0, 0], %d) is %s, error %d", p, oracle.TellSpan(s), e)
		}
		if s, e := taylor.CosOver(api.Span{}, p); e != api.OK || !shapely(s, p) || !oracle.Thin(s, p) || !oracle.Same(s.Hi, one) {
			t.Errorf("CosOver([0, 0], %d) is %s, error %d", p, oracle.TellSpan(s), e)
		}
	}
}

// meets: have the spans a number in common?
func meets(a, b api.Span) bool {
	_, ok, e := span.Meet(a, b)
	return ok && e == api.OK
}

func TestP15_5_SpansMeet(t *testing.T) {
	for _, x := range numbers() {
		var sines []api.Span
		for _, p := range precisions() {
			s, _ := taylor.Sin(x, p)
			sines = append(sines, s)
			mirrored, _ := taylor.Sin(oracle.Opposite(x), p)
			if mirrored, _ = span.Neg(mirrored); !meets(s, mirrored) {
				t.Errorf("Sin(%s, %d) and the mirrored sine of the opposite are apart", oracle.Tell(x), p)
			}
		}
		for i, s := range sines {
			for k, other := range sines {
				if !meets(s, other) {
					t.Errorf("Sin(%s) at %d and %d bits are apart", oracle.Tell(x), precisions()[i], precisions()[k])
				}
			}
		}
	}
}

func TestP15_5_SinOverMeetsSin(t *testing.T) {
	low := oracle.Opposite(one)
	for _, x := range numbers() {
		for _, s := range []api.Span{{Lo: low, Hi: one}, {Lo: x, Hi: x}, {Hi: x}, {Lo: x, Hi: one}, {Lo: low, Hi: x}} {
			for _, p := range []int{1, 60} {
				over, e := taylor.SinOver(s, p)
				for _, q := range []int{1, 60, 300} {
					if sin, _ := taylor.Sin(x, q); e != api.OK || !meets(sin, over) {
						t.Errorf("Sin(%s, %d) and SinOver(%s, %d) are apart", oracle.Tell(x), q, oracle.TellSpan(s), p)
					}
				}
			}
		}
	}
}

// The squares' sum holds 1: of sines of a size above 2^-1100, below which a sum of squares is too long for this test.
func TestP15_5_Squares(t *testing.T) {
	for _, x := range numbers() {
		if sizeOf(x).BitLen()+x.Exp < -1100 {
			continue
		}
		for _, p := range precisions() {
			sin, _ := taylor.Sin(x, p)
			cos, _ := taylor.Cos(x, p)
			a, _ := span.Sqr(sin, 3000)
			b, _ := span.Sqr(cos, 3000)
			sum, e := span.Add(a, b, 6000)
			if has, _ := span.Has(sum, one); e != api.OK || !has {
				t.Errorf("the squares of sine and cosine of %s at %d bits add up to %s", oracle.Tell(x), p, oracle.TellSpan(sum))
			}
		}
	}
}

// wrongNumbers: beyond 1, or too small.
func wrongNumbers() []api.Dyadic {
	out := []api.Dyadic{
		number(2, 0), number(9, -3), number(3, -1), number(1, 1), number(1<<53+1, -53), number(1, 20), number(1, api.MaxExp), oracle.Long(2, -127), oracle.Gap(api.MaxLimbs, -64*api.MaxLimbs+1),
		number(1, -524289), number(3, -524290), number(1<<60-1, -524348), number(1, -1000000), number(1, -api.MaxExp), oracle.Long(2, -524288-128), oracle.Long(api.MaxLimbs, -api.MaxExp),
	}
	for _, d := range out {
		out = append(out, oracle.Opposite(d))
	}
	return out
}

func wrongPrecisions() []int {
	return []int{0, -1, -64, api.MaxSeries + 1, api.MaxPrec, 1 << 32, 1<<32 + 5, math.MaxInt, math.MinInt}
}

// fails looks whether each call of t, and of spans with t in them, answers that error alone.
func fails(t *testing.T, x api.Dyadic, p int, want api.Errno) {
	t.Helper()
	for name, f := range map[string]func(api.Dyadic, int) (api.Span, api.Errno){"Sin": taylor.Sin, "Cos": taylor.Cos} {
		if s, e := f(x, p); e != want || !empty(s) {
			t.Errorf("%s(%s, %d) is %s, error %d", name, oracle.Tell(x), p, oracle.TellSpan(s), e)
		}
	}
	spans := []api.Span{{Lo: x, Hi: x}, {Hi: x}}
	if sign(x) < 0 {
		spans = []api.Span{{Lo: x, Hi: x}, {Lo: x}, {Lo: x, Hi: one}}
	}
	for _, s := range spans {
		failsOver(t, s, p, want)
	}
}

func failsOver(t *testing.T, s api.Span, p int, want api.Errno) {
	t.Helper()
	for name, f := range map[string]func(api.Span, int) (api.Span, api.Errno){"SinOver": taylor.SinOver, "CosOver": taylor.CosOver} {
		if got, e := f(s, p); e != want || !empty(got) {
			t.Errorf("%s(%s, %d) is %s, error %d", name, oracle.TellSpan(s), p, oracle.TellSpan(got), e)
		}
	}
}

func TestErrors15(t *testing.T) {
	for _, p := range wrongPrecisions() {
		for _, x := range append(append(wrongNumbers(), oracle.MisshapenDyadics()...), api.Dyadic{}, one) {
			fails(t, x, p, api.ErrArg)
		}
	}
	for _, p := range []int{1, 5, 64, api.MaxSeries} {
		for _, x := range oracle.MisshapenDyadics() {
			fails(t, x, p, api.ErrForm)
			for _, other := range []api.Dyadic{one, number(2, 0), number(-1, -1)} {
				failsOver(t, api.Span{Lo: other, Hi: x}, p, api.ErrForm)
				failsOver(t, api.Span{Lo: x, Hi: other}, p, api.ErrForm)
			}
		}
		for _, x := range wrongNumbers() {
			fails(t, x, p, api.ErrLimit)
		}
	}
}

// Ends the wrong way about are a fault of form, also where they lie beyond 1.
func TestErrors15_Turned(t *testing.T) {
	for _, s := range []api.Span{{Lo: one, Hi: number(1, -1)}, {Lo: number(2, 0), Hi: one}, {Lo: number(1, -524289)}, {Lo: one, Hi: oracle.Opposite(one)}} {
		failsOver(t, s, 5, api.ErrForm)
		failsOver(t, s, 0, api.ErrArg)
	}
	for _, s := range []api.Span{{Lo: number(1, -1), Hi: number(5, -2)}, {Lo: number(-2, 0), Hi: number(2, 0)}, {Lo: number(-9, -3), Hi: number(1, -1)}, {Lo: number(1, -524289), Hi: one}, {Lo: number(-1, 0), Hi: number(1, -524289)}} {
		failsOver(t, s, 5, api.ErrLimit)
		failsOver(t, s, api.MaxSeries+1, api.ErrArg)
	}
}

func TestErrors15_AtTheEdge(t *testing.T) {
	for _, x := range []api.Dyadic{one, oracle.Opposite(one), number(1, -524288), number(-1, -524288), number(3, -524289), {}} {
		for _, p := range []int{1, 5} {
			_, e1 := taylor.Sin(x, p)
			_, e2 := taylor.Cos(x, p)
			_, e3 := taylor.SinOver(api.Span{Lo: x, Hi: x}, p)
			_, e4 := taylor.CosOver(api.Span{Lo: x, Hi: x}, p)
			if e1 != api.OK || e2 != api.OK || e3 != api.OK || e4 != api.OK {
				t.Errorf("of %s at %d bits: errors %d, %d, %d, %d", oracle.Tell(x), p, e1, e2, e3, e4)
			}
		}
	}
}
