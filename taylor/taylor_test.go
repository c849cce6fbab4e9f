package taylor_test

import (
	"math/big"
	"testing"

	"gnomon/api"
	"gnomon/dyadic"
	"gnomon/oracle"
	"gnomon/span"
	"gnomon/taylor"
)

// extra is how many bits more than a span was asked for its value is told with here.
const extra = 100

var one = oracle.Fields(1, 0)

// value is the size of a number that is told by another way: it lies between low and high, both times 2^exp.
type value struct {
	low, high *big.Int
	exp       int
}

// waves: |sin x| and cos x.
func waves(x api.Dyadic, p int) (sin, cos value) {
	places := p + extra
	ratio, around := oracle.Waves(x, places)
	size := new(big.Int).Abs(oracle.Whole(x.Man))
	sin = value{new(big.Int).Mul(size, ratio.Low), new(big.Int).Mul(size, ratio.High), x.Exp - places}
	return sin, value{around.Low, around.High, -places}
}

func sizeOf(d api.Dyadic) *big.Int { return oracle.Number(d.Man.Mag) }

// above: is |d| at least v, and at most v + 2^-p * v?
func (v value) above(d api.Dyadic, p int) bool {
	factor := new(big.Int).Lsh(big.NewInt(1), uint(p))
	factor.Add(factor, big.NewInt(1)).Mul(factor, v.high)
	return oracle.Order(sizeOf(d), d.Exp, v.high, v.exp) >= 0 && oracle.Order(sizeOf(d), d.Exp+p, factor, v.exp) <= 0
}

// below: is |d| at most v, and at least v - 2^-p * v?
func (v value) below(d api.Dyadic, p int) bool {
	factor := new(big.Int).Lsh(big.NewInt(1), uint(p))
	factor.Sub(factor, big.NewInt(1)).Mul(factor, v.low)
	return oracle.Order(sizeOf(d), d.Exp, v.low, v.exp) <= 0 && oracle.Order(sizeOf(d), d.Exp+p, factor, v.exp) >= 0
}

// shapely: what is promised of every span: in form, within [-1, 1], ends of at most p + 64 bits.
func shapely(s api.Span, p int) bool {
	if !span.Form(s) {
		return false
	}
	for _, d := range []api.Dyadic{s.Lo, s.Hi} {
		if sizeOf(d).BitLen() > p+64 || oracle.Order(sizeOf(d), d.Exp, big.NewInt(1), 0) > 0 {
			return false
		}
	}
	return true
}

func same(s api.Span, lo, hi api.Dyadic) bool { return oracle.Same(s.Lo, lo) && oracle.Same(s.Hi, hi) }

func empty(s api.Span) bool { return same(s, api.Dyadic{}, api.Dyadic{}) }

// number: m * 2^e in form.
func number(m, e int) api.Dyadic { return oracle.Times(big.NewInt(int64(m)), e) }

// numbers: of a size of at most 1, great and small, short and long, above nought.
func numbers() []api.Dyadic {
	out := []api.Dyadic{
		one, number(1, -1), number(3, -2), number(1, -2), number(7, -3), number(13, -4), number(1, -6), number(51, -6), number(1<<53-1, -53), number(1<<52+1, -53), number(0x1921fb54442d18, -53), number(0x1999999999999a, -56), number(3, -21), number(1, -33), number(5, -35), number(1, -53), number(1, -64), number(1<<62+1, -100), number(1, -100), number(3, -101), number(1, -1074), number(1, -2000), number(-5+1<<60, -2060), number(1, -70000), number(3, -300000), number(1, -524287), number(3, -524289), number(1, -524288),
	}
	for _, limbs := range []int{2, 5, 40, api.MaxLimbs} {
		out = append(out, oracle.Long(limbs, -64*limbs), oracle.Gap(limbs, -64*limbs), oracle.Gap(limbs, -64*limbs-2000), oracle.Long(limbs, -64*limbs-524287), oracle.Gap(limbs, -64*limbs-524287))
	}
	return out
}

func precisions() []int { return []int{1, 2, 3, 10, 31, 32, 53, 64, 100, 300, 700} }

// sinRight looks whether Sin of t and of -t is all that P15.1 asks for, with sin |t| told.
func sinRight(t *testing.T, x api.Dyadic, p int, sin value) {
	t.Helper()
	s, e := taylor.Sin(x, p)
	if e != api.OK || !shapely(s, p) || !oracle.Thin(s, p) || s.Lo.Man.Neg || !sin.below(s.Lo, p) || !sin.above(s.Hi, p) {
		t.Errorf("Sin(%s, %d) is %s, error %d", oracle.Tell(x), p, oracle.TellSpan(s), e)
	}
	s, e = taylor.Sin(oracle.Opposite(x), p)
	if e != api.OK || !shapely(s, p) || !oracle.Thin(s, p) || !s.Hi.Man.Neg || !sin.above(s.Lo, p) || !sin.below(s.Hi, p) {
		t.Errorf("Sin(-%s, %d) is %s, error %d", oracle.Tell(x), p, oracle.TellSpan(s), e)
	}
}

// cosRight looks whether Cos of t and of -t is all that P15.2 asks for, with cos t told.
func cosRight(t *testing.T, x api.Dyadic, p int, cos value) {
	t.Helper()
	for _, y := range []api.Dyadic{x, oracle.Opposite(x)} {
		s, e := taylor.Cos(y, p)
		if e != api.OK || !shapely(s, p) || !oracle.Thin(s, p) || s.Lo.Man.Neg || !cos.below(s.Lo, p) || !cos.above(s.Hi, p) {
			t.Errorf("Cos(%s, %d) is %s, error %d", oracle.Tell(y), p, oracle.TellSpan(s), e)
		}
	}
}

func TestP15_1_P15_2_Values(t *testing.T) {
	for _, x := range numbers() {
		for _, p := range precisions() {
			sin, cos := waves(x, p)
			sinRight(t, x, p, sin)
			cosRight(t, x, p, cos)
		}
	}
}

// Many numbers and all small precisions, so that sums of each length and each count of halvings come about.
func TestP15_1_P15_2_ManyValues(t *testing.T) {
	for p := 1; p <= 130; p++ {
		for i := range 12 {
			x := number(1+(i*5077+p*7919)%8191, -13-(i*i)%(p+9))
			sin, cos := waves(x, p)
			sinRight(t, x, p, sin)
			cosRight(t, x, p, cos)
		}
	}
}

func TestP15_1_P15_2_AtMaxSeries(t *testing.T) {
	for _, x := range []api.Dyadic{one, oracle.Gap(api.MaxLimbs, -64*api.MaxLimbs), number(1, -2000), number(1, -524288)} {
		p := api.MaxSeries
		sin, cos := waves(x, p)
		if s, e := taylor.Sin(x, p); e != api.OK || !shapely(s, p) || !oracle.Thin(s, p) || !sin.below(s.Lo, p) || !sin.above(s.Hi, p) {
			t.Errorf("Sin(%s, %d) is %s, error %d", oracle.Tell(x), p, oracle.TellSpan(s), e)
		}
		if s, e := taylor.Cos(x, p); e != api.OK || !shapely(s, p) || !oracle.Thin(s, p) || !cos.below(s.Lo, p) || !cos.above(s.Hi, p) {
			t.Errorf("Cos(%s, %d) is %s, error %d", oracle.Tell(x), p, oracle.TellSpan(s), e)
		}
	}
}

func TestP15_1_P15_2_Nought(t *testing.T) {
	for _, nought := range []api.Dyadic{{}, {Man: api.Int{Mag: []uint64{}}}} {
		for _, p := range []int{1, 5, 1000, api.MaxSeries} {
			if s, e := taylor.Sin(nought, p); e != api.OK || !empty(s) {
				t.Errorf("Sin(0, %d) is %s, error %d", p, oracle.TellSpan(s), e)
			}
			if s, e := taylor.Cos(nought, p); e != api.OK || !same(s, one, one) {
				t.Errorf("Cos(0, %d) is %s, error %d", p, oracle.TellSpan(s), e)
			}
		}
	}
}

// The chapter's examples name spans that hold the value too.
func TestP15_1_P15_2_Examples(t *testing.T) {
	if s, e := taylor.Sin(one, 10); e != api.OK || !oracle.Thin(s, 10) || !meets(s, api.Span{Lo: number(1723, -11), Hi: number(431, -9)}) {
		t.Errorf("Sin(1, 10) is %s, error %d", oracle.TellSpan(s), e)
	}
	if s, e := taylor.Cos(one, 4); e != api.OK || !oracle.Thin(s, 4) || !meets(s, api.Span{Lo: number(17, -5), Hi: number(35, -6)}) {
		t.Errorf("Cos(1, 4) is %s, error %d", oracle.TellSpan(s), e)
	}
	s, e := taylor.Sin(number(1, -2000), 100)
	if below, _ := dyadic.Cmp(s.Lo, number(1, -2000)); e != api.OK || !oracle.Thin(s, 100) || below >= 0 {
		t.Errorf("Sin(2^-2000, 100) is %s, error %d", oracle.TellSpan(s), e)
	}
}
