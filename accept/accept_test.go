package accept_test

import (
	"math"
	"math/big"
	"strconv"
	"testing"

	"gnomon/accept"
	"gnomon/api"
	"gnomon/oracle"
)

// fit: as the chapter says it.
func fit(v api.DD, e int) bool {
	size := math.Abs(v.Hi)
	return oracle.InForm(v) && size >= 0x1p-900 && size <= 0x1p900 && e >= -100 && e <= -56
}

// ends are two numbers: all between them is asked about.
type ends [2]*big.Rat

// pattern: the one to which all of it rounds, and whether there is one. A greater number never rounds to a smaller pattern: so the ends tell it.
func (a ends) pattern() (uint64, bool) {
	b := oracle.Rounded(api.Double, a[0])
	return b, b == oracle.Rounded(api.Double, a[1])
}

// near: the y farthest from V, on either side, with |y - V| <= 2^e * |y|.
func near(v *big.Rat, e int) ends {
	return ends{new(big.Rat).Quo(v, onePlus(1, e)), new(big.Rat).Quo(v, onePlus(-1, e))}
}

// twice: the y farthest from V, on either side, with |y - V| <= 2^(e+1) * |V|.
func twice(v *big.Rat, e int) ends {
	return ends{new(big.Rat).Mul(v, onePlus(1, e+1)), new(big.Rat).Mul(v, onePlus(-1, e+1))}
}

// onePlus: 1 + sign * 2^e, for an e below nought.
func onePlus(sign int64, e int) *big.Rat {
	below := new(big.Int).Lsh(big.NewInt(1), uint(-e))
	return new(big.Rat).SetFrac(new(big.Int).Add(below, big.NewInt(sign)), below)
}

// holds looks whether an answer is what the three promises ask for, and tells whether it must be true, and whether it may be.
func holds(t *testing.T, v api.DD, e int) (must, may bool) {
	t.Helper()
	got, ok := accept.Accept(v, e)
	if !ok && got != 0 {
		t.Errorf("P25.3: Accept(%x, %d) is %x beside false", v, e, got)
	}
	if !fit(v, e) {
		if ok {
			t.Errorf("P25.1: Accept(%x, %d) is true, but they are not fit", v, e)
		}
		return false, false
	}
	number, _ := oracle.ExactDD(v).Rat(nil)
	want, may := near(number, e).pattern()
	_, must = twice(number, e).pattern()
	if ok && (!may || got != want) {
		t.Errorf("P25.1: Accept(%x, %d) is %x, true", v, e, got)
	}
	if !ok && must {
		t.Errorf("P25.2: Accept(%x, %d) is false", v, e)
	}
	return must, may
}

// parts: how many times the margin a number lies off a midpoint.
var parts = [...]float64{0, 0x1p-6, 0.25, 0.5, 0.9, 0.99, 1, 1.01, 1.1, 1.25, 1.5, 1.75, 1.9, 1.99, 2, 2.01, 2.1, 3, 8}

// lows: Los beside a Hi: at the midpoints, just off them on either side, so many margins of 2^e, and far from them.
func lows(hi float64, e int) []float64 {
	margin := math.Ldexp(math.Abs(hi), e)
	out := []float64{0, math.Copysign(0, -1), math.SmallestNonzeroFloat64, -math.SmallestNonzeroFloat64, float64(0x1p-200 * hi), float64(-0x1p-200 * hi)}
	for _, next := range []float64{math.Nextafter(hi, math.Inf(1)), math.Nextafter(hi, math.Inf(-1))} {
		half := (next - hi) / 2
		out = append(out, half/2, half/3)
		for _, part := range parts {
			off := float64(part * margin)
			for _, lo := range []float64{half - off, half + off} {
				out = append(out, lo, math.Nextafter(lo, math.Inf(1)), math.Nextafter(lo, math.Inf(-1)))
			}
		}
	}
	return out
}

// his: powers of two, their neighbours and others, of both signs and of all sizes that are fit.
func his() []float64 {
	out := []float64{0x1p900, -0x1p900}
	for _, exp := range []int{-900, -300, -1, 0, 1, 53, 899} {
		for _, m := range []float64{1, 0x1.0000000000001p0, 0x1.0000000000002p0, 0x1.ffffffffffffep0, 0x1.fffffffffffffp0, 0x1.5555555555555p0, 0x1.921fb54442d18p0} {
			x := math.Ldexp(m, exp)
			out = append(out, x, -x)
		}
	}
	return out
}

var margins = [...]int{-100, -99, -98, -78, -77, -60, -57, -56}

func TestP25_1_P25_2_P25_3_AboutMidpoints(t *testing.T) {
	for _, e := range margins {
		t.Run(strconv.Itoa(-e), func(t *testing.T) {
			t.Parallel()
			sure, free, unsure := 0, 0, 0
			for _, hi := range his() {
				for _, lo := range lows(hi, e) {
					switch must, may := holds(t, api.DD{Hi: hi, Lo: lo}, e); {
					case must:
						sure++
					case may:
						free++
					case oracle.InForm(api.DD{Hi: hi, Lo: lo}):
						unsure++
					}
				}
			}
			if sure < 1000 || free < 500 || unsure < 1000 {
				t.Errorf("%d were sure, %d free, %d unsure", sure, free, unsure)
			}
		})
	}
}

// Numbers without a rule, of which most are far from midpoints, at every e.
func TestP25_1_P25_2_P25_3_Ruleless(t *testing.T) {
	t.Parallel()
	words := oracle.Words(9000)
	sure := 0
	for i := 0; i+1 < len(words); i += 2 {
		hi := oracle.FloatOf(words[i], -900, 900)
		v := api.DD{Hi: hi, Lo: float64(hi * oracle.FloatOf(words[i+1], -60, -53))}
		if must, _ := holds(t, v, -100+i/2%45); must {
			sure++
		}
	}
	if sure < 2000 {
		t.Errorf("only %d were sure", sure)
	}
}

// answers looks at one answer that is not free.
func answers(t *testing.T, hi, lo float64, e int, want uint64, sure bool) {
	t.Helper()
	if got, ok := accept.Accept(api.DD{Hi: hi, Lo: lo}, e); got != want || ok != sure {
		t.Errorf("Accept({%x, %x}, %d) is %x, %v; want %x, %v", hi, lo, e, got, ok, want, sure)
	}
	holds(t, api.DD{Hi: hi, Lo: lo}, e)
}

// refused looks at a double-double and its opposite, of which neither is taken.
func refused(t *testing.T, hi, lo float64, e int) {
	t.Helper()
	for _, v := range []api.DD{{Hi: hi, Lo: lo}, {Hi: -hi, Lo: -lo}} {
		answers(t, v.Hi, v.Lo, e, 0, false)
	}
}

const one = 0x3ff0000000000000

func TestP25_Examples(t *testing.T) {
	answers(t, 1, 0, -60, one, true)
	for e := -100; e <= -56; e++ {
		answers(t, 1, 0x1p-53, e, 0, false)
		answers(t, 1, -0x1p-54, e, 0, false)
	}
	answers(t, 1, 0x1p-54, -56, one, true)
	answers(t, 1, -0x1p-55, -56, one, true)
	holds(t, api.DD{Hi: 1, Lo: -(0x1p-55 + 0x1p-57)}, -56)
	answers(t, 1, 0x1p-53-0x1p-70, -60, 0, false)
	refused(t, 1, 1, -60)
	refused(t, 1, 0, -55)
	refused(t, 1, 0, -101)
	refused(t, 0x1p901, 0, -60)
	refused(t, math.NaN(), 0, -60)
	refused(t, 0, 0, -60)
}

// At each e from end to end, and at none beyond.
func TestP25_1_Margins(t *testing.T) {
	for e := -100; e <= -56; e++ {
		answers(t, 1, 0, e, one, true)
		answers(t, -1.5, 0, e, math.Float64bits(-1.5), true)
	}
	for _, e := range []int{-101, -102, -128, -1000, -1074, -1100, -55, -54, -53, -1, 0, 1, 56, 60, 100, 1<<32 - 60, -1<<32 - 60, 1 << 62, math.MaxInt, math.MaxInt - 1, math.MinInt, math.MinInt + 1} {
		refused(t, 1, 0, e)
		refused(t, 1.5, 0x1p-60, e)
		refused(t, 0x1p900, 0, e)
		refused(t, 1, 1, e)
	}
}

// At each size from end to end, and at none beyond: the Hi alone counts.
func TestP25_1_Sizes(t *testing.T) {
	for _, e := range []int{-100, -78, -56} {
		for exp := -900; exp <= 900; exp++ {
			x := math.Ldexp(1, exp)
			answers(t, x, 0, e, math.Float64bits(x), true)
			answers(t, -x, 0, e, math.Float64bits(-x), true)
		}
		for _, v := range []api.DD{{Hi: 0x1p900, Lo: 0x1p840}, {Hi: 0x1p900, Lo: -0x1p840}, {Hi: 0x1p-900, Lo: -0x1p-960}, {Hi: 0x1p-900, Lo: 0x1p-960}, {Hi: 0x1p-900, Lo: math.SmallestNonzeroFloat64}} {
			answers(t, v.Hi, v.Lo, e, math.Float64bits(v.Hi), true)
			answers(t, -v.Hi, -v.Lo, e, math.Float64bits(-v.Hi), true)
		}
		above, below := math.Nextafter(0x1p900, math.Inf(1)), math.Nextafter(0x1p-900, 0)
		for _, x := range []float64{above, 0x1p901, 0x1p1000, 0x1p1023, math.MaxFloat64, below, 0x1p-901, 0x1p-1000, 0x1p-1022, 0x1p-1060, math.SmallestNonzeroFloat64, 0} {
			refused(t, x, 0, e)
			refused(t, x, math.Copysign(0, -1), e)
		}
		refused(t, above, -0x1p846, e)
		refused(t, below, 0x1p-955, e)
	}
}

func TestP25_1_NotInForm(t *testing.T) {
	const u = 0x1p-53
	for _, e := range []int{-100, -78, -56} {
		for _, v := range [][2]float64{{1, 1}, {1, -1}, {1, -u}, {1, 1.5 * u}, {1, math.Nextafter(u, 1)}, {1 + 2*u, u}, {1 + 2*u, -u}, {2 - 2*u, u}, {0, 1}, {0, math.SmallestNonzeroFloat64}, {0x1p-60, 1}, {1, 0x1p900}, {1, math.MaxFloat64}, {0x1p900, 0x1p900}, {math.MaxFloat64, math.MaxFloat64}} {
			refused(t, v[0], v[1], e)
		}
		for _, x := range append(oracle.EndlessFloats(), math.Float64frombits(0xfff0000000000001)) {
			for _, y := range []float64{0, 1, -1, 0x1p-60, 0x1p900, math.Inf(1), math.Inf(-1), math.NaN()} {
				refused(t, x, y, e)
				refused(t, y, x, e)
			}
		}
	}
}
