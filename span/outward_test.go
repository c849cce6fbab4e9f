package span_test

import (
	"math/big"
	"testing"

	"gnomon/api"
	"gnomon/dyadic"
	"gnomon/num"
	"gnomon/oracle"
	"gnomon/span"
)

type binary = func(a, b api.Span, p int) (api.Span, api.Errno)

var precisions = []int{1, 2, 3, 53, 64, 65, 130, 400}

// outward: what the document asks for of the least and the greatest of some numbers.
func outward(p int, all ...*big.Rat) api.Span {
	lo, hi := all[0], all[0]
	for _, x := range all {
		if x.Cmp(lo) < 0 {
			lo = x
		}
		if x.Cmp(hi) > 0 {
			hi = x
		}
	}
	return api.Span{Lo: inForm(oracle.Down(lo, p)), Hi: inForm(oracle.Up(hi, p))}
}

// sum, difference, product, ratio: as the library has them, of new memory.
func sum(x, y api.Dyadic) *big.Rat { return new(big.Rat).Add(value(x), value(y)) }

func difference(x, y api.Dyadic) *big.Rat { return new(big.Rat).Sub(value(x), value(y)) }

func product(x, y api.Dyadic) *big.Rat { return new(big.Rat).Mul(value(x), value(y)) }

func ratio(x, y api.Dyadic) *big.Rat { return new(big.Rat).Quo(value(x), value(y)) }

// four: f of each end of a with each end of b.
func four(f func(x, y api.Dyadic) *big.Rat, a, b api.Span) []*big.Rat {
	return []*big.Rat{f(a.Lo, b.Lo), f(a.Lo, b.Hi), f(a.Hi, b.Lo), f(a.Hi, b.Hi)}
}

// fewer: not all samples, where each goes with each.
func fewer() []api.Span {
	var out []api.Span
	for i, s := range samples() {
		if i%3 == 0 {
			out = append(out, s)
		}
	}
	return append(out, whole(0, 0), whole(-2, 3), whole(0, 5), whole(-5, 0))
}

func TestP6_9_Out(t *testing.T) {
	for _, c := range []struct{ lo, hi, p, down, up int }{
		{5, 11, 2, 4, 12}, {-5, 11, 2, -6, 12}, {5, 5, 3, 5, 5}, {7, 7, 1, 4, 8}, {-7, -7, 1, -8, -4}, {0, 0, 1, 0, 0}, {0, 7, 70000, 0, 7}, {-7, 0, 1, -8, 0},
	} {
		of(span.Out(whole(c.lo, c.hi), c.p)).is(t, "Out", whole(c.down, c.up), api.OK)
	}
	for _, s := range samples() {
		for _, p := range precisions {
			of(span.Out(s, p)).is(t, "Out", outward(p, value(s.Lo), value(s.Hi)), api.OK)
		}
	}
	of(span.Out(units(3, 3, maxExp-1), 1)).fails(t, "Out: Up goes beyond", api.ErrLimit)
	of(span.Out(units(-3, 3, maxExp-1), 1)).fails(t, "Out: both go beyond", api.ErrLimit)
	of(span.Out(units(-3, 2, maxExp-1), 1)).fails(t, "Out: Down goes beyond", api.ErrLimit)
	of(span.Out(units(2, 2, maxExp-1), 1)).is(t, "Out at MaxExp", units(1, 1, maxExp), api.OK)
}

func TestP6_10_Examples(t *testing.T) {
	of(span.Add(whole(1, 2), whole(5, 8), 3)).is(t, "Add", whole(6, 10), api.OK)
	of(span.Add(whole(1, 2), whole(5, 8), 2)).is(t, "Add", whole(6, 12), api.OK)
	of(span.Sub(whole(1, 2), whole(5, 8), 3)).is(t, "Sub", whole(-7, -3), api.OK)
	of(span.Sub(whole(1, 2), whole(1, 2), 3)).is(t, "Sub of a span from itself", whole(-1, 1), api.OK)
}

func TestP6_10_and_11_ByTheLibrary(t *testing.T) {
	for _, a := range fewer() {
		for _, b := range fewer() {
			for _, p := range precisions {
				of(span.Add(a, b, p)).is(t, "Add", outward(p, sum(a.Lo, b.Lo), sum(a.Hi, b.Hi)), api.OK)
				of(span.Sub(a, b, p)).is(t, "Sub", outward(p, difference(a.Lo, b.Hi), difference(a.Hi, b.Lo)), api.OK)
				of(span.Mul(a, b, p)).is(t, "Mul", outward(p, four(product, a, b)...), api.OK)
			}
		}
	}
}

func TestP6_10_AtTheLimits(t *testing.T) {
	far := point(n(1, -1000000))
	for _, f := range []binary{span.Add, span.Sub} {
		of(f(point(n(1, 1000000)), far, 10)).fails(t, "exponents far apart", api.ErrLimit)
		of(f(far, point(n(1, 1000000)), 10)).fails(t, "exponents far apart", api.ErrLimit)
		of(f(point(n(3, 1000000)), whole(0, 0), 10)).is(t, "with nought", point(n(3, 1000000)), api.OK)
		of(f(far, point(long(8192, -1000000+8)), 10)).fails(t, "too long a sum", api.ErrLimit)
	}
	// One pair of ends alone is beyond.
	of(span.Add(api.Span{Lo: n(0, 0), Hi: n(1, maxExp)}, whole(0, 1), 10)).fails(t, "Add, Hi alone", api.ErrLimit)
	of(span.Add(api.Span{Lo: n(-1, maxExp), Hi: n(0, 0)}, whole(-1, 0), 10)).fails(t, "Add, Lo alone", api.ErrLimit)
	of(span.Sub(api.Span{Lo: n(0, 0), Hi: n(1, maxExp)}, whole(-1, 0), 10)).fails(t, "Sub, Hi alone", api.ErrLimit)
	of(span.Sub(api.Span{Lo: n(-1, maxExp), Hi: n(0, 0)}, whole(0, 1), 10)).fails(t, "Sub, Lo alone", api.ErrLimit)
	of(span.Sub(whole(0, 0), units(-1, 1, maxExp), 1)).is(t, "0 - s", units(-1, 1, maxExp), api.OK)
	// The exact sums have forms, and rounded outward they have none.
	end := point(n(1, maxExp-1))
	of(span.Add(end, point(n(1, maxExp)), 2)).is(t, "Add, room for it", point(n(3, maxExp-1)), api.OK)
	of(span.Add(end, point(n(1, maxExp)), 1)).fails(t, "Add, rounded beyond", api.ErrLimit)
	of(span.Sub(point(n(-1, maxExp)), end, 1)).fails(t, "Sub, rounded beyond", api.ErrLimit)
	of(span.Sub(point(n(-1, maxExp)), end, 2)).is(t, "Sub, room for it", point(n(-3, maxExp-1)), api.OK)
	of(span.Add(point(long(8192, 0)), point(n(-1, 0)), 70000)).is(t, "Add, just so long", outward(70000, sum(long(8192, 0), n(-1, 0))), api.OK)
	of(span.Add(point(long(8192, 0)), point(n(1, 0)), 1)).fails(t, "Add, a bit too long", api.ErrLimit)
	of(span.Sub(point(n(1, 524288)), point(long(8192, 0)), 1)).fails(t, "Sub, one of the two too long", api.ErrLimit)
}

func TestP6_11_Examples(t *testing.T) {
	for _, c := range []struct{ a, b, c, d, p, lo, hi int }{
		{-2, 3, -5, 7, 10, -15, 21}, {-2, 3, -5, 7, 3, -16, 24}, {-2, 3, -2, 3, 10, -6, 9}, {-3, -2, 5, 7, 10, -21, -10}, {-3, -2, -7, -5, 10, 10, 21}, {0, 0, -7, 5, 10, 0, 0}, {-4, 1, -6, 2, 10, -8, 24}, {0, 2, -3, 0, 10, -6, 0}, {3, 3, 5, 5, 4, 15, 15}, {3, 3, 5, 5, 3, 14, 16},
	} {
		of(span.Mul(whole(c.a, c.b), whole(c.c, c.d), c.p)).is(t, "Mul", whole(c.lo, c.hi), api.OK)
	}
}

func TestP6_11_AtTheLimits(t *testing.T) {
	big, small := n(1, 1000000), n(1, -1000000)
	of(span.Mul(api.Span{Hi: big}, point(big), 10)).fails(t, "Mul, Hi*Hi beyond", api.ErrLimit)
	of(span.Mul(api.Span{Lo: minus(big)}, api.Span{Lo: minus(big), Hi: n(1, 0)}, 10)).fails(t, "Mul, Lo*Lo beyond", api.ErrLimit)
	// The product that is beyond is neither the least nor the greatest: all four are asked.
	of(span.Mul(api.Span{Lo: small, Hi: n(1, 0)}, api.Span{Lo: small, Hi: n(1, 0)}, 10)).fails(t, "Mul, the least below -MaxExp", api.ErrLimit)
	of(span.Mul(api.Span{Lo: minus(small), Hi: n(1, 0)}, api.Span{Lo: minus(small), Hi: n(1, 0)}, 10)).fails(t, "Mul, one in the middle below -MaxExp", api.ErrLimit)
	of(span.Mul(whole(0, 0), api.Span{Lo: n(-1, maxExp), Hi: long(8192, maxExp)}, 10)).is(t, "Mul of nought", api.Span{}, api.OK)
	of(span.Mul(api.Span{Lo: n(-3, maxExp), Hi: n(0, 0)}, whole(0, 1), 2)).is(t, "Mul at MaxExp", api.Span{Lo: n(-3, maxExp)}, api.OK)
	of(span.Mul(point(n(3, maxExp-1)), whole(1, 1), 1)).fails(t, "Mul, rounded beyond", api.ErrLimit)
	of(span.Mul(point(n(3, maxExp-1)), whole(-1, -1), 1)).fails(t, "Mul, rounded beyond below nought", api.ErrLimit)
	of(span.Mul(point(long(8192, 0)), whole(1, 3), 10)).fails(t, "Mul, too long", api.ErrLimit)
	of(span.Mul(point(long(8192, 0)), whole(-1, 1), 1)).is(t, "Mul, just so long", units(-1, 1, 524288), api.OK)
	of(span.Mul(point(long(4096, 0)), point(long(4096, 0)), 1)).is(t, "Mul, just so long", units(1, 2, 524287), api.OK)
}

func TestP6_12_Sqr(t *testing.T) {
	for _, c := range []struct{ lo, hi, p, down, up int }{
		{-2, 3, 10, 0, 9}, {-3, 2, 10, 0, 9}, {-3, -2, 10, 4, 9}, {2, 3, 10, 4, 9}, {-3, 0, 10, 0, 9}, {0, 3, 10, 0, 9}, {0, 0, 1, 0, 0}, {3, 5, 2, 8, 32}, {-5, -5, 1, 16, 32}, {-1, 1, 1, 0, 1},
	} {
		of(span.Sqr(whole(c.lo, c.hi), c.p)).is(t, "Sqr", whole(c.down, c.up), api.OK)
	}
	for _, s := range samples() {
		all := []*big.Rat{product(s.Lo, s.Lo), product(s.Hi, s.Hi)}
		if holds, _ := span.Has(s, api.Dyadic{}); holds {
			all = append(all, new(big.Rat))
		}
		for _, p := range precisions {
			of(span.Sqr(s, p)).is(t, "Sqr", outward(p, all...), api.OK)
		}
	}
}

func TestP6_12_AtTheLimits(t *testing.T) {
	half := n(1, maxExp/2)
	of(span.Sqr(point(half), 1)).is(t, "Sqr to MaxExp", point(n(1, maxExp)), api.OK)
	of(span.Sqr(api.Span{Lo: minus(half), Hi: half}, 1)).is(t, "Sqr to MaxExp", api.Span{Hi: n(1, maxExp)}, api.OK)
	of(span.Sqr(point(n(1, -maxExp/2)), 1)).is(t, "Sqr to -MaxExp", point(n(1, -maxExp)), api.OK)
	of(span.Sqr(api.Span{Hi: n(1, maxExp/2+1)}, 1)).fails(t, "Sqr, Hi beyond", api.ErrLimit)
	of(span.Sqr(api.Span{Lo: n(-1, maxExp/2+1)}, 1)).fails(t, "Sqr, Lo beyond", api.ErrLimit)
	// Lo's square is asked for where nought stands in its place.
	of(span.Sqr(api.Span{Lo: n(-1, -maxExp/2-1), Hi: n(1, 0)}, 1)).fails(t, "Sqr, Lo*Lo below -MaxExp", api.ErrLimit)
	of(span.Sqr(api.Span{Lo: n(-1, 0), Hi: n(1, -maxExp/2-1)}, 1)).fails(t, "Sqr, Hi*Hi below -MaxExp", api.ErrLimit)
	of(span.Sqr(point(n(3, maxExp/2-2)), 1)).is(t, "Sqr, rounded to MaxExp", units(1, 2, maxExp-1), api.OK)
	of(span.Sqr(point(n(5, maxExp/2-2)), 1)).fails(t, "Sqr, rounded beyond", api.ErrLimit)
	of(span.Sqr(point(long(4097, 0)), 1)).fails(t, "Sqr, too long", api.ErrLimit)
	of(span.Sqr(point(minus(long(4096, 0))), 1)).is(t, "Sqr, just so long", units(1, 2, 524287), api.OK)
}

func TestP6_13_Examples(t *testing.T) {
	for _, c := range []struct {
		a, b api.Span
		p    int
		want api.Span
	}{
		{whole(1, 1), whole(3, 3), 2, units(2, 3, -3)}, {whole(1, 1), whole(3, 3), 3, units(5, 6, -4)}, {whole(-1, 2), whole(1, 2), 5, whole(-1, 2)}, {whole(1, 2), whole(-2, -1), 5, units(-4, -1, -1)},
		{whole(-6, -4), whole(1, 2), 9, whole(-6, -2)}, {whole(-6, 4), whole(-2, -1), 9, whole(-4, 6)}, {whole(0, 0), whole(-2, -1), 9, whole(0, 0)}, {whole(0, 6), whole(2, 3), 9, whole(0, 3)}, {whole(-6, 0), whole(2, 3), 9, whole(-3, 0)},
	} {
		of(span.Quo(c.a, c.b, c.p)).is(t, "Quo", c.want, api.OK)
	}
}

func TestP6_13_ByTheLibrary(t *testing.T) {
	for _, a := range fewer() {
		for _, b := range fewer() {
			holds, _ := span.Has(b, api.Dyadic{})
			for _, p := range precisions {
				if holds {
					of(span.Quo(a, b, p)).fails(t, "Quo by what holds nought", api.ErrZero)
				} else {
					of(span.Quo(a, b, p)).is(t, "Quo", outward(p, four(ratio, a, b)...), api.OK)
				}
			}
		}
	}
}

func TestP6_13_AtTheLimits(t *testing.T) {
	just, over := long(4096, 0), long(4097, 0)
	wide, near := api.Span{Lo: n(1, 0), Hi: over}, api.Span{Lo: n(1, 0), Hi: just}
	wideBelow := api.Span{Lo: minus(over), Hi: n(-1, 0)}
	of(span.Quo(whole(0, 1), wide, 5)).fails(t, "Quo of [0, 1]: Hi of the divisor is asked", api.ErrLimit)
	of(span.Quo(whole(-1, 0), wide, 5)).is(t, "Quo of [-1, 0]: Hi of the divisor is not asked", whole(-1, 0), api.OK)
	of(span.Quo(whole(-1, 1), wide, 5)).is(t, "Quo of [-1, 1]: Hi of the divisor is not asked", whole(-1, 1), api.OK)
	of(span.Quo(whole(-1, -1), wide, 5)).fails(t, "Quo of [-1, -1]: Hi of the divisor is asked", api.ErrLimit)
	of(span.Quo(whole(-1, 0), wideBelow, 5)).fails(t, "Quo below nought: Lo of the divisor is asked", api.ErrLimit)
	of(span.Quo(whole(0, 1), wideBelow, 5)).is(t, "Quo below nought: Lo of the divisor is not asked", whole(-1, 0), api.OK)
	of(span.Quo(whole(0, 1), near, 5)).is(t, "Quo by 4096 limbs", whole(0, 1), api.OK)
	of(span.Quo(api.Span{Lo: n(0, 0), Hi: over}, whole(1, 1), 5)).fails(t, "Quo of 4097 limbs above", api.ErrLimit)
	of(span.Quo(api.Span{Lo: minus(over), Hi: n(0, 0)}, whole(1, 1), 5)).fails(t, "Quo of 4097 limbs below", api.ErrLimit)
	of(span.Quo(api.Span{Lo: minus(just), Hi: just}, whole(1, 1), 1)).is(t, "Quo of 4096 limbs", units(-1, 1, 262144), api.OK)
	of(span.Quo(point(n(1, maxExp)), point(n(1, -1)), 5)).fails(t, "Quo beyond MaxExp", api.ErrLimit)
	of(span.Quo(point(n(1, maxExp-1)), point(n(-1, -1)), 5)).is(t, "Quo to MaxExp", point(n(-1, maxExp)), api.OK)
	of(span.Quo(point(n(1, -maxExp)), point(n(1, 1)), 5)).fails(t, "Quo below -MaxExp", api.ErrLimit)
	of(span.Quo(point(n(5, maxExp)), whole(3, 3), 1)).fails(t, "Quo: the upper end alone beyond", api.ErrLimit)
	of(span.Quo(point(n(5, maxExp)), whole(-3, -3), 1)).fails(t, "Quo: the lower end alone beyond", api.ErrLimit)
	for _, p := range []int{69999, 70000} {
		of(span.Quo(whole(1, 2), whole(3, 7), p)).is(t, "Quo", outward(p, four(ratio, whole(1, 2), whole(3, 7))...), api.OK)
	}
}

func TestP6_9_to_13_Wrong(t *testing.T) {
	two := []binary{span.Add, span.Sub, span.Mul, span.Quo,
		func(a, _ api.Span, p int) (api.Span, api.Errno) { return span.Out(a, p) },
		func(a, _ api.Span, p int) (api.Span, api.Errno) { return span.Sqr(a, p) },
	}
	for i, f := range two {
		for _, p := range []int{0, -1, 70001, most, lowest} {
			of(f(whole(1, 2), whole(3, 4), p)).fails(t, "a precision that is none", api.ErrArg)
			of(f(whole(2, 1), whole(0, 0), p)).fails(t, "three things wrong", api.ErrArg)
			of(f(units(1, 1, maxExp), units(1, 1, -maxExp), p)).fails(t, "a precision that is none, beyond the limits", api.ErrArg)
		}
		for _, s := range misshapen() {
			of(f(s, whole(3, 4), 1)).fails(t, "a not in form", api.ErrForm)
			of(f(s, whole(-1, 1), 70000)).fails(t, "a not in form, by nought", api.ErrForm)
			if i < 4 {
				of(f(point(n(1, maxExp)), s, 9)).fails(t, "b not in form", api.ErrForm)
			}
		}
	}
	for _, b := range []api.Span{whole(0, 0), whole(0, 1), whole(-1, 0), whole(-1, 1), units(-1, 1, maxExp), {Lo: n(0, 0), Hi: long(8192, 0)}} {
		of(span.Quo(whole(1, 1), b, 5)).fails(t, "Quo by what holds nought", api.ErrZero)
		of(span.Quo(point(long(4097, maxExp)), b, 5)).fails(t, "Quo by what holds nought, beyond the limits", api.ErrZero)
	}
}

// within: does x lie in s?
func within(x *big.Rat, s api.Span) bool {
	return value(s.Lo).Cmp(x) <= 0 && x.Cmp(value(s.Hi)) <= 0
}

// inside: some numbers of a span: its ends, and what lies between.
func inside(s api.Span) []api.Dyadic {
	middle, _ := dyadic.Add(s.Lo, s.Hi)
	middle, _ = dyadic.Scale(middle, -1)
	between, _ := dyadic.Add(middle, s.Lo)
	between, _ = dyadic.Scale(between, -1)
	return []api.Dyadic{s.Lo, s.Hi, middle, between}
}

// rule is an operation on spans and what it does to numbers.
type rule struct {
	name  string
	spans binary
	exact func(x, y api.Dyadic) *big.Rat
}

func rules() []rule {
	return []rule{{"Add", span.Add, sum}, {"Sub", span.Sub, difference}, {"Mul", span.Mul, product}, {"Quo", span.Quo, ratio}}
}

func TestP6_14_Holds(t *testing.T) {
	for _, a := range fewer() {
		for _, b := range fewer() {
			for _, r := range rules() {
				for _, p := range []int{1, 5, 70} {
					s, e := r.spans(a, b, p)
					if e != api.OK {
						continue
					}
					for _, u := range inside(a) {
						for _, v := range inside(b) {
							if !within(r.exact(u, v), s) {
								t.Fatalf("%s(%s, %s, %d) doesn't hold %s with %s", r.name, tellSpan(a), tellSpan(b), p, tell(u), tell(v))
							}
						}
					}
				}
			}
		}
		for _, p := range []int{1, 5, 70} {
			s, _ := span.Sqr(a, p)
			for _, u := range inside(a) {
				if !within(product(u, u), s) {
					t.Errorf("Sqr(%s, %d) doesn't hold the square of %s", tellSpan(a), p, tell(u))
				}
			}
		}
	}
}

// lies: is s a part of outer?
func lies(s, outer api.Span) bool {
	return within(value(s.Lo), outer) && within(value(s.Hi), outer)
}

func TestP6_14_Inclusion(t *testing.T) {
	outer := []api.Span{whole(-2, 9), whole(1, 9), whole(-9, -1), units(-3, 11, -2), units(4, 4, 0)}
	for _, a := range outer {
		for _, b := range outer {
			for _, u := range inside(a) {
				for _, v := range inside(b) {
					small, narrow := outward(300, value(u), value(a.Hi)), outward(300, value(v), value(b.Lo))
					for _, r := range rules() {
						whole, e := r.spans(a, b, 4)
						part, e2 := r.spans(small, narrow, 4)
						if e == api.OK && e2 == api.OK && !lies(part, whole) {
							t.Errorf("%s of %s and %s leaves that of %s and %s", r.name, tellSpan(small), tellSpan(narrow), tellSpan(a), tellSpan(b))
						}
					}
					whole, _ := span.Sqr(a, 4)
					if part, _ := span.Sqr(small, 4); !lies(part, whole) {
						t.Errorf("Sqr of %s leaves that of %s", tellSpan(small), tellSpan(a))
					}
				}
			}
		}
		if sqr, _ := span.Sqr(a, 4); num.Sign(sqr.Lo.Man) < 0 {
			t.Errorf("Sqr of %s goes below nought", tellSpan(a))
		}
	}
}
