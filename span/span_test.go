package span_test

import (
	"math"
	"math/big"
	"slices"
	"testing"

	"gnomon/api"
	"gnomon/dyadic"
	"gnomon/num"
	"gnomon/oracle"
	"gnomon/span"
)

const (
	maxExp = api.MaxExp
	most   = math.MaxInt
	lowest = math.MinInt
)

var (
	value, inForm, tell, tellSpan = oracle.Value, oracle.Dyadic, oracle.Tell, oracle.TellSpan
	long, minus, same             = oracle.Long, oracle.Opposite, oracle.Same
)

type answer struct {
	got api.Span
	e   api.Errno
}

func of(got api.Span, e api.Errno) answer { return answer{got, e} }

func (a answer) is(t *testing.T, call string, want api.Span, e api.Errno) {
	t.Helper()
	if a.e != e || !same(a.got.Lo, want.Lo) || !same(a.got.Hi, want.Hi) {
		t.Errorf("%s = %s, error %d, want %s, error %d", call, tellSpan(a.got), a.e, tellSpan(want), e)
	}
}

// fails: the error, and nothing beside it.
func (a answer) fails(t *testing.T, call string, e api.Errno) {
	t.Helper()
	a.is(t, call, api.Span{}, e)
}

// n: m * 2^e in form.
func n(m, e int) api.Dyadic {
	d := dyadic.Of(m)
	if m != 0 {
		d.Exp += e
	}
	return d
}

// whole: from lo to hi.
func whole(lo, hi int) api.Span { return units(lo, hi, 0) }

// units: from lo to hi, in units of 2^e.
func units(lo, hi, e int) api.Span { return api.Span{Lo: n(lo, e), Hi: n(hi, e)} }

func point(d api.Dyadic) api.Span { return api.Span{Lo: d, Hi: d} }

// numbers: some in form, in order.
func numbers() []api.Dyadic {
	out := []api.Dyadic{{}}
	for _, d := range []api.Dyadic{n(1, -70), n(5, -3), n(1, 0), n(3, 0), n(7, 1), n(most, -40), n(1, 64)} {
		out = append(out, d, minus(d))
	}
	for k := range 2 {
		mag := oracle.Mixed(k+2, uint64(k))
		mag[0] |= 1
		d := api.Dyadic{Man: api.Int{Mag: mag}, Exp: -64 - k}
		out = append(out, d, minus(d))
	}
	slices.SortFunc(out, func(x, y api.Dyadic) int { return value(x).Cmp(value(y)) })
	return out
}

// samples: spans in form, those of one number alone too.
func samples() []api.Span {
	var out []api.Span
	all := numbers()
	for i := range all {
		for k := 0; i+k < len(all); k += 1 + k*k {
			out = append(out, api.Span{Lo: all[i], Hi: all[i+k]})
		}
	}
	return out
}

// misshapen: what is not in form.
func misshapen() []api.Span {
	out := []api.Span{whole(3, 1), whole(1, 0), whole(0, -1), whole(-1, -2), {Lo: n(1, maxExp), Hi: n(1, -maxExp)}, {Lo: n(-1, -maxExp), Hi: minus(long(8192, maxExp))}, units(7, 6, -900)}
	for _, d := range oracle.MisshapenDyadics() {
		out = append(out, api.Span{Lo: d, Hi: d}, api.Span{Lo: d, Hi: n(1, maxExp)}, api.Span{Lo: n(-1, maxExp), Hi: d})
	}
	return out
}

func TestP6_1_Form(t *testing.T) {
	extreme := api.Span{Lo: minus(long(8192, maxExp)), Hi: long(8192, maxExp)}
	for _, s := range append(samples(), api.Span{}, whole(-3, -3), extreme, api.Span{Lo: n(1, -maxExp), Hi: n(1, maxExp)}, point(long(8192, -maxExp))) {
		if !span.Form(s) {
			t.Errorf("Form of %s is false", tellSpan(s))
		}
	}
	for _, s := range misshapen() {
		if span.Form(s) {
			t.Errorf("Form of %s is true", tellSpan(s))
		}
	}
}

func TestP6_2_PointAndMake(t *testing.T) {
	for _, d := range append(numbers(), long(8192, maxExp)) {
		of(span.Point(d)).is(t, "Point", point(d), api.OK)
	}
	for _, s := range samples() {
		of(span.Make(s.Lo, s.Hi)).is(t, "Make", s, api.OK)
	}
	of(span.Make(n(1, -maxExp), n(1, maxExp))).is(t, "Make", api.Span{Lo: n(1, -maxExp), Hi: n(1, maxExp)}, api.OK)
	for _, d := range oracle.MisshapenDyadics() {
		of(span.Point(d)).fails(t, "Point", api.ErrForm)
	}
	for _, s := range misshapen() {
		of(span.Make(s.Lo, s.Hi)).fails(t, "Make", api.ErrForm)
	}
}

func TestP6_3_Has(t *testing.T) {
	for _, s := range samples() {
		for _, d := range numbers() {
			want := value(s.Lo).Cmp(value(d)) <= 0 && value(d).Cmp(value(s.Hi)) <= 0
			if got, e := span.Has(s, d); got != want || e != api.OK {
				t.Errorf("Has(%s, %s) = %v, %d", tellSpan(s), tell(d), got, e)
			}
		}
	}
	wide := api.Span{Lo: n(-1, -maxExp), Hi: n(1, maxExp)}
	for _, c := range []struct {
		s    api.Span
		d    api.Dyadic
		want bool
		e    api.Errno
	}{
		{whole(1, 3), n(3, 0), true, api.OK}, {whole(1, 3), n(7, -1), false, api.OK}, {wide, n(-1, -maxExp), true, api.OK}, {wide, n(-1, 1-maxExp), false, api.OK}, {wide, n(3, maxExp), false, api.OK}, {wide, long(8192, -maxExp), true, api.OK},
		{whole(1, 3), api.Dyadic{Exp: 1}, false, api.ErrForm}, {whole(3, 1), n(2, 0), false, api.ErrForm},
	} {
		if got, e := span.Has(c.s, c.d); got != c.want || e != c.e {
			t.Errorf("Has(%s, %s) = %v, %d, want %v, %d", tellSpan(c.s), tell(c.d), got, e, c.want, c.e)
		}
	}
	for _, s := range misshapen() {
		if got, e := span.Has(s, api.Dyadic{}); got || e != api.ErrForm {
			t.Errorf("Has(%s, 0) = %v, %d", tellSpan(s), got, e)
		}
	}
	for _, d := range oracle.MisshapenDyadics() {
		if got, e := span.Has(wide, d); got || e != api.ErrForm {
			t.Errorf("Has(.., %s) = %v, %d", tell(d), got, e)
		}
	}
}

func TestP6_4_Sign(t *testing.T) {
	for _, s := range samples() {
		want := 0
		if value(s.Hi).Sign() < 0 {
			want = -1
		} else if value(s.Lo).Sign() > 0 {
			want = 1
		}
		if got, e := span.Sign(s); got != want || e != api.OK {
			t.Errorf("Sign(%s) = %d, %d, want %d", tellSpan(s), got, e, want)
		}
	}
	for _, c := range []struct{ lo, hi, want int }{{-1, 1, 0}, {0, 1, 0}, {0, 0, 0}, {-1, 0, 0}, {1, 2, 1}, {-2, -1, -1}, {5, 5, 1}, {-5, -5, -1}} {
		if got, e := span.Sign(whole(c.lo, c.hi)); got != c.want || e != api.OK {
			t.Errorf("Sign([%d, %d]) = %d, %d", c.lo, c.hi, got, e)
		}
	}
	for _, s := range misshapen() {
		if got, e := span.Sign(s); got != 0 || e != api.ErrForm {
			t.Errorf("Sign(%s) = %d, %d", tellSpan(s), got, e)
		}
	}
}

func TestP6_5_Width(t *testing.T) {
	for _, s := range samples() {
		want := inForm(new(big.Rat).Sub(value(s.Hi), value(s.Lo)))
		if got, e := span.Width(s); !same(got, want) || e != api.OK {
			t.Errorf("Width(%s) = %s, %d", tellSpan(s), tell(got), e)
		}
	}
	for _, c := range []struct {
		s    api.Span
		want api.Dyadic
		e    api.Errno
	}{
		{whole(1, 3), n(2, 0), api.OK}, {point(long(8192, maxExp)), api.Dyadic{}, api.OK}, {api.Span{Hi: n(1, maxExp)}, n(1, maxExp), api.OK}, {api.Span{Lo: n(-1, -maxExp)}, n(1, -maxExp), api.OK},
		{api.Span{Lo: n(1, -1000000), Hi: n(1, 1000000)}, api.Dyadic{}, api.ErrLimit}, {units(-1, 1, maxExp), api.Dyadic{}, api.ErrLimit}, {units(1, 3, maxExp), api.Dyadic{}, api.ErrLimit}, {api.Span{Lo: n(-1, 0), Hi: long(8192, 0)}, api.Dyadic{}, api.ErrLimit},
	} {
		if got, e := span.Width(c.s); !same(got, c.want) || e != c.e {
			t.Errorf("Width(%s) = %s, %d, want %s, %d", tellSpan(c.s), tell(got), e, tell(c.want), c.e)
		}
	}
	for _, s := range misshapen() {
		if got, e := span.Width(s); !same(got, api.Dyadic{}) || e != api.ErrForm {
			t.Errorf("Width(%s) = %s, %d", tellSpan(s), tell(got), e)
		}
	}
}

func thinIs(t *testing.T, s api.Span, p int, want bool, e api.Errno) {
	t.Helper()
	if got, fault := span.Thin(s, p); got != want || fault != e {
		t.Errorf("Thin(%s, %d) = %v, %d, want %v, %d", tellSpan(s), p, got, fault, want, e)
	}
	if !span.Form(s) {
		return
	}
	turned, _ := span.Neg(s)
	if got, fault := span.Thin(turned, p); got != want || fault != e {
		t.Errorf("Thin(%s, %d) = %v, %d, want %v, %d", tellSpan(turned), p, got, fault, want, e)
	}
}

func TestP6_6_Thin(t *testing.T) {
	for _, c := range []struct {
		lo, hi, p int
		want      bool
	}{
		{4, 5, 2, true}, {4, 5, 3, false}, {0, 1, 1, false}, {-1, 0, 1, false}, {0, 0, 1, true}, {0, 0, 70000, true}, {-1, 1, 1, false}, {7, 7, 70000, true}, {2, 3, 1, true}, {1, 2, 1, false}, {512, 513, 9, true}, {511, 512, 9, false}, {5, 6, 2, true}, {3, 4, 2, false}, {48, 51, 4, true}, {47, 50, 4, false},
	} {
		thinIs(t, whole(c.lo, c.hi), c.p, c.want, api.OK)
	}
	for _, s := range samples() {
		width := new(big.Rat).Sub(value(s.Hi), value(s.Lo))
		low, high := new(big.Rat).Abs(value(s.Lo)), new(big.Rat).Abs(value(s.Hi))
		if high.Cmp(low) < 0 {
			low = high
		}
		for _, p := range []int{1, 2, 20, 100, 300} {
			bound := new(big.Rat).Mul(low, new(big.Rat).SetFrac(big.NewInt(1), new(big.Int).Lsh(big.NewInt(1), uint(p))))
			thinIs(t, s, p, width.Cmp(bound) <= 0, api.OK)
		}
	}
}

// next: d + k*2^e, by the library.
func next(d api.Dyadic, k int64, e int) api.Dyadic {
	shifted := new(big.Int).Lsh(oracle.Whole(d.Man), uint(d.Exp-e))
	return oracle.Times(shifted.Add(shifted, big.NewInt(k)), e)
}

func TestP6_6_ThinAtTheLimits(t *testing.T) {
	// One unit in 2^70000: at the ends of the exponents too, where 2^-70000 times an end has no form.
	for _, e := range []int{0, -maxExp, maxExp - 70000, maxExp - 70001} {
		lo := n(1, e+70000)
		thinIs(t, api.Span{Lo: lo, Hi: next(lo, 1, e)}, 70000, true, api.OK)
		thinIs(t, api.Span{Lo: lo, Hi: next(lo, 1, e)}, 69999, true, api.OK)
		thinIs(t, api.Span{Lo: lo, Hi: next(lo, 2, e)}, 69999, true, api.OK)
		thinIs(t, api.Span{Lo: lo, Hi: next(lo, 2, e)}, 70000, false, api.OK)
		thinIs(t, api.Span{Lo: next(lo, -1, e), Hi: lo}, 70000, false, api.OK)
		thinIs(t, api.Span{Lo: next(lo, -1, e), Hi: lo}, 69999, true, api.OK)
		thinIs(t, api.Span{Lo: lo, Hi: next(lo, 3, e)}, 69999, false, api.OK)
	}
	// The ends lie beyond 2^MaxExp, and 2^70000 times the width has no form.
	beyond := oracle.Times(new(big.Int).Add(new(big.Int).Lsh(big.NewInt(1), 70001), big.NewInt(1)), maxExp-69990)
	thinIs(t, api.Span{Lo: beyond, Hi: next(beyond, 2, maxExp-69990)}, 70000, true, api.OK)
	thinIs(t, api.Span{Lo: beyond, Hi: next(beyond, 3, maxExp-69990)}, 70000, false, api.OK)
	top := long(8192, maxExp)
	thinIs(t, point(top), 70000, true, api.OK)
	thinIs(t, api.Span{Lo: next(top, -2, maxExp), Hi: top}, 70000, false, api.ErrLimit)
	thinIs(t, api.Span{Lo: next(long(8192, -maxExp), -2, -maxExp), Hi: long(8192, -maxExp)}, 70000, true, api.OK)
	wide := api.Span{Lo: n(1, -1000000), Hi: n(1, 1000000)}
	thinIs(t, wide, 1, false, api.ErrLimit)
	thinIs(t, units(1, 3, maxExp), 1, false, api.ErrLimit)
	wide.Lo = minus(wide.Lo)
	thinIs(t, wide, 1, false, api.OK)
	thinIs(t, api.Span{Hi: n(1, maxExp)}, 70000, false, api.OK)
	thinIs(t, units(-1, 1, maxExp), 70000, false, api.OK)
}

func TestP6_6_ThinWrong(t *testing.T) {
	for _, p := range []int{0, -1, 70001, most, lowest} {
		thinIs(t, whole(4, 5), p, false, api.ErrArg)
		thinIs(t, whole(5, 4), p, false, api.ErrArg)
	}
	for _, s := range misshapen() {
		thinIs(t, s, 1, false, api.ErrForm)
		thinIs(t, s, 70000, false, api.ErrForm)
	}
}

func TestP6_7_HullAndMeet(t *testing.T) {
	all := samples()
	for _, a := range all {
		for _, b := range all {
			hull, meet := a, a
			if value(b.Lo).Cmp(value(a.Lo)) < 0 {
				hull.Lo = b.Lo
			} else {
				meet.Lo = b.Lo
			}
			if value(b.Hi).Cmp(value(a.Hi)) > 0 {
				hull.Hi = b.Hi
			} else {
				meet.Hi = b.Hi
			}
			some := value(meet.Lo).Cmp(value(meet.Hi)) <= 0
			if !some {
				meet = api.Span{}
			}
			of(span.Hull(a, b)).is(t, "Hull", hull, api.OK)
			got, ok, e := span.Meet(a, b)
			of(got, e).is(t, "Meet", meet, api.OK)
			if ok != some {
				t.Errorf("Meet(%s, %s) says %v", tellSpan(a), tellSpan(b), ok)
			}
		}
	}
}

func TestP6_7_Examples(t *testing.T) {
	of(span.Hull(whole(1, 2), whole(5, 6))).is(t, "Hull", whole(1, 6), api.OK)
	for _, c := range []struct {
		a, b, want api.Span
		ok         bool
	}{
		{whole(1, 5), whole(3, 9), whole(3, 5), true}, {whole(1, 2), whole(2, 3), whole(2, 2), true}, {whole(1, 2), whole(3, 4), api.Span{}, false}, {whole(0, 0), whole(-1, 0), whole(0, 0), true},
		{units(-1, 1, maxExp), units(-1, 1, -maxExp), units(-1, 1, -maxExp), true}, {point(n(1, maxExp)), point(n(1, -maxExp)), api.Span{}, false},
	} {
		got, ok, e := span.Meet(c.a, c.b)
		of(got, e).is(t, "Meet", c.want, api.OK)
		if ok != c.ok {
			t.Errorf("Meet(%v, %v) says %v", c.a, c.b, ok)
		}
	}
	for _, s := range misshapen() {
		of(span.Hull(s, whole(1, 2))).fails(t, "Hull", api.ErrForm)
		of(span.Hull(whole(1, 2), s)).fails(t, "Hull", api.ErrForm)
		for _, in := range [][2]api.Span{{s, whole(1, 2)}, {whole(1, 2), s}, {s, s}} {
			got, ok, e := span.Meet(in[0], in[1])
			of(got, e).fails(t, "Meet", api.ErrForm)
			if ok {
				t.Errorf("Meet says true beside an error")
			}
		}
	}
}

func TestP6_8_NegAndScale(t *testing.T) {
	for _, s := range samples() {
		of(span.Neg(s)).is(t, "Neg", api.Span{Lo: inForm(new(big.Rat).Neg(value(s.Hi))), Hi: inForm(new(big.Rat).Neg(value(s.Lo)))}, api.OK)
		for _, k := range []int{0, 1, -1, 500, -500} {
			want := s
			if num.Sign(s.Lo.Man) != 0 {
				want.Lo.Exp += k
			}
			if num.Sign(s.Hi.Man) != 0 {
				want.Hi.Exp += k
			}
			of(span.Scale(s, k)).is(t, "Scale", want, api.OK)
		}
	}
	of(span.Neg(api.Span{Lo: long(8192, -maxExp), Hi: n(1, maxExp)})).is(t, "Neg", api.Span{Lo: n(-1, maxExp), Hi: minus(long(8192, -maxExp))}, api.OK)
	of(span.Scale(units(-1, 1, maxExp), -2*maxExp)).is(t, "Scale, all the way", units(-1, 1, -maxExp), api.OK)
	for _, k := range []int{most, lowest, maxExp + 1} {
		of(span.Scale(whole(0, 0), k)).is(t, "Scale of nought", api.Span{}, api.OK)
		of(span.Scale(whole(0, 1), k)).fails(t, "Scale", api.ErrLimit)
		of(span.Scale(whole(-1, 0), k)).fails(t, "Scale", api.ErrLimit)
	}
	of(span.Scale(api.Span{Lo: n(1, 0), Hi: n(1, maxExp)}, 1)).fails(t, "Scale: Hi alone goes beyond", api.ErrLimit)
	of(span.Scale(api.Span{Lo: n(1, -maxExp), Hi: n(1, 0)}, -1)).fails(t, "Scale: Lo alone goes beyond", api.ErrLimit)
	of(span.Scale(api.Span{Lo: n(0, 0), Hi: n(1, maxExp-1)}, 1)).is(t, "Scale to MaxExp", api.Span{Hi: n(1, maxExp)}, api.OK)
	for _, s := range misshapen() {
		of(span.Neg(s)).fails(t, "Neg", api.ErrForm)
		for _, k := range []int{0, 1, most, lowest} {
			of(span.Scale(s, k)).fails(t, "Scale", api.ErrForm)
		}
	}
}
