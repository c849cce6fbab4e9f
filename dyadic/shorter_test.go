package dyadic_test

import (
	"math/big"
	"testing"

	"gnomon/api"
	"gnomon/dyadic"
	"gnomon/num"
	"gnomon/oracle"
)

type withInt = func(d api.Dyadic, n int) (api.Dyadic, api.Errno)

type quotient = func(a, b api.Dyadic, p int) (api.Dyadic, api.Errno)

func TestP5_8_Examples(t *testing.T) {
	for _, c := range []struct{ m, p, down, up int }{
		{7, 2, 6, 8}, {-7, 2, -8, -6}, {5, 3, 5, 5}, {9, 3, 8, 10}, {7, 1, 4, 8}, {0, 1, 0, 0}, {0, 70000, 0, 0}, {-9, 70000, -9, -9}, {1, 1, 1, 1},
	} {
		of(dyadic.Down(dyadic.Of(c.m), c.p)).is(t, "Down", dyadic.Of(c.down), api.OK)
		of(dyadic.Up(dyadic.Of(c.m), c.p)).is(t, "Up", dyadic.Of(c.up), api.OK)
	}
}

// fewBits: the whole numbers of at most p bits from -1024 to 1024, in order.
func fewBits(p int) []int {
	var out []int
	for m := -1024; m <= 1024; m++ {
		odd := m
		for odd != 0 && odd%2 == 0 {
			odd /= 2
		}
		if max(odd, -odd) < 1<<p {
			out = append(out, m)
		}
	}
	return out
}

func TestP5_8_AllShortOnes(t *testing.T) {
	for p := 1; p <= 6; p++ {
		few := fewBits(p)
		at := 0
		for m := -1024; m < 1024; m++ {
			if few[at+1] <= m {
				at++
			}
			high := few[at]
			if high != m {
				high = few[at+1]
			}
			of(dyadic.Down(dyadic.Of(m), p)).is(t, "Down", dyadic.Of(few[at]), api.OK)
			of(dyadic.Up(dyadic.Of(m), p)).is(t, "Up", dyadic.Of(high), api.OK)
		}
	}
}

func TestP5_8_ByTheLibrary(t *testing.T) {
	for _, d := range samples() {
		for _, p := range []int{1, 2, 3, 53, 63, 64, 65, 127, 128, 200, 319, 320, 321, 70000} {
			of(dyadic.Down(d, p)).is(t, "Down", inForm(oracle.Down(value(d), p)), api.OK)
			of(dyadic.Up(d, p)).is(t, "Up", inForm(oracle.Up(value(d), p)), api.OK)
		}
	}
}

func TestP5_8_AtTheLimits(t *testing.T) {
	of(dyadic.Down(n(3, maxExp-1), 1)).is(t, "Down", n(1, maxExp), api.OK)
	of(dyadic.Up(n(3, maxExp-1), 1)).fails(t, "Up", api.ErrLimit)
	of(dyadic.Down(n(-3, maxExp-1), 1)).fails(t, "Down", api.ErrLimit)
	of(dyadic.Up(n(-3, maxExp-1), 1)).is(t, "Up", n(-1, maxExp), api.OK)
	of(dyadic.Down(n(5, maxExp), 2)).fails(t, "Down: 4*2^MaxExp", api.ErrLimit)
	of(dyadic.Up(n(5, maxExp), 2)).fails(t, "Up: 3*2^(MaxExp+1)", api.ErrLimit)
	of(dyadic.Up(n(5, maxExp), 3)).is(t, "Up", n(5, maxExp), api.OK)
	of(dyadic.Down(n(7, -maxExp), 2)).is(t, "Down at the lowest exponent", n(3, 1-maxExp), api.OK)
	for _, p := range []int{1, 2, 69999, 70000} {
		of(dyadic.Up(long(8192, 5), p)).is(t, "Up of the longest", n(1, 524293), api.OK)
		of(dyadic.Down(long(8192, 5), p)).is(t, "Down of the longest", oracle.Times(new(big.Int).Rsh(oracle.Number(oracle.Ones(8192)), uint(524288-p)), 524293-p), api.OK)
		of(dyadic.Down(minus(long(8192, 5)), p)).is(t, "Down of the longest below nought", n(-1, 524293), api.OK)
	}
	of(dyadic.Up(gap(1000, 0), 63999)).is(t, "Up, one bit short", oracle.Times(new(big.Int).Add(oracle.Number(oracle.Noughts(999, 1<<63)), big.NewInt(2)), 0), api.OK)
	of(dyadic.Up(gap(1000, 0), 64000)).is(t, "Up, no bit short", gap(1000, 0), api.OK)
}

func TestP5_8_Wrong(t *testing.T) {
	for _, f := range []withInt{dyadic.Down, dyadic.Up} {
		for _, p := range []int{0, -1, 70001, most, lowest} {
			for _, d := range append(misshapen(), n(5, 0), n(0, 0)) {
				of(f(d, p)).fails(t, "a precision that is none", api.ErrArg)
			}
		}
		for _, d := range misshapen() {
			of(f(d, 1)).fails(t, "not in form", api.ErrForm)
			of(f(d, 70000)).fails(t, "not in form", api.ErrForm)
		}
	}
}

func TestP5_9_Grids(t *testing.T) {
	for _, d := range samples() {
		for _, e := range []int{0, 1, -1, 3, 63, 64, -64, -500, 500, d.Exp, d.Exp + 1, d.Exp - 1} {
			of(dyadic.DownAt(d, e)).is(t, "DownAt", inForm(oracle.DownAt(value(d), e)), api.OK)
			of(dyadic.UpAt(d, e)).is(t, "UpAt", inForm(oracle.UpAt(value(d), e)), api.OK)
		}
	}
	for m := -40; m <= 40; m++ {
		for e := -2; e < 8; e++ {
			of(dyadic.DownAt(dyadic.Of(m), e)).is(t, "DownAt", inForm(oracle.DownAt(value(dyadic.Of(m)), e)), api.OK)
			of(dyadic.UpAt(dyadic.Of(m), e)).is(t, "UpAt", inForm(oracle.UpAt(value(dyadic.Of(m)), e)), api.OK)
		}
	}
}

func TestP5_9_FarGrids(t *testing.T) {
	for _, e := range []int{lowest, -maxExp - 1, -maxExp} {
		for _, d := range []api.Dyadic{n(3, 0), n(-3, -maxExp), n(1, maxExp), long(8192, -maxExp), {}} {
			of(dyadic.DownAt(d, e)).is(t, "DownAt of a fine grid", d, api.OK)
			of(dyadic.UpAt(d, e)).is(t, "UpAt of a fine grid", d, api.OK)
		}
	}
	for _, d := range []api.Dyadic{n(3, 0), n(3, -maxExp), n(1, maxExp-1), long(8192, -maxExp)} {
		of(dyadic.DownAt(d, maxExp)).is(t, "DownAt of the widest grid", api.Dyadic{}, api.OK)
		of(dyadic.UpAt(d, maxExp)).is(t, "UpAt of the widest grid", n(1, maxExp), api.OK)
		of(dyadic.DownAt(minus(d), maxExp)).is(t, "DownAt of the widest grid", n(-1, maxExp), api.OK)
		of(dyadic.UpAt(minus(d), maxExp)).is(t, "UpAt of the widest grid", api.Dyadic{}, api.OK)
		for _, e := range []int{maxExp + 1, most - 1, most} {
			of(dyadic.DownAt(d, e)).is(t, "DownAt beyond", api.Dyadic{}, api.OK)
			of(dyadic.UpAt(d, e)).fails(t, "UpAt beyond", api.ErrLimit)
			of(dyadic.DownAt(minus(d), e)).fails(t, "DownAt beyond", api.ErrLimit)
			of(dyadic.UpAt(minus(d), e)).is(t, "UpAt beyond", api.Dyadic{}, api.OK)
			of(dyadic.UpAt(n(0, 0), e)).is(t, "UpAt of nought", api.Dyadic{}, api.OK)
		}
	}
	of(dyadic.DownAt(n(9, maxExp), maxExp+1)).fails(t, "DownAt: 8*2^MaxExp", api.ErrLimit)
	of(dyadic.DownAt(long(8192, 0), 524287)).is(t, "DownAt, one bit left", n(1, 524287), api.OK)
	of(dyadic.DownAt(long(8192, 0), 524288)).is(t, "DownAt, none left", api.Dyadic{}, api.OK)
	of(dyadic.UpAt(long(8192, 0), 524287)).is(t, "UpAt, one bit left", n(1, 524288), api.OK)
	for _, d := range misshapen() {
		for _, e := range []int{0, most, lowest} {
			of(dyadic.DownAt(d, e)).fails(t, "not in form", api.ErrForm)
			of(dyadic.UpAt(d, e)).fails(t, "not in form", api.ErrForm)
		}
	}
}

func quoIs(t *testing.T, a, b api.Dyadic, p int) {
	t.Helper()
	exact := new(big.Rat).Quo(value(a), value(b))
	of(dyadic.QuoDown(a, b, p)).is(t, "QuoDown", inForm(oracle.Down(exact, p)), api.OK)
	of(dyadic.QuoUp(a, b, p)).is(t, "QuoUp", inForm(oracle.Up(exact, p)), api.OK)
}

func TestP5_10_Examples(t *testing.T) {
	for _, c := range []struct{ a, b, down, up api.Dyadic }{
		{n(1, 0), n(3, 0), n(5, -4), n(11, -5)}, {n(-1, 0), n(3, 0), n(-11, -5), n(-5, -4)}, {n(1, 0), n(-3, 0), n(-11, -5), n(-5, -4)}, {n(-1, 0), n(-3, 0), n(5, -4), n(11, -5)}, {n(3, 1), n(3, 0), n(1, 1), n(1, 1)}, {n(0, 0), n(-3, 0), n(0, 0), n(0, 0)},
	} {
		of(dyadic.QuoDown(c.a, c.b, 4)).is(t, "QuoDown", c.down, api.OK)
		of(dyadic.QuoUp(c.a, c.b, 4)).is(t, "QuoUp", c.up, api.OK)
	}
	of(dyadic.QuoUp(n(3, 1), n(3, 0), 1)).is(t, "QuoUp", n(1, 1), api.OK)
}

func TestP5_10_ByTheLibrary(t *testing.T) {
	for a := -24; a <= 24; a++ {
		for b := 1; b <= 24; b++ {
			for p := 1; p <= 7; p++ {
				quoIs(t, dyadic.Of(a), dyadic.Of(b), p)
				quoIs(t, dyadic.Of(a), dyadic.Of(-b), p)
			}
		}
	}
	for _, a := range samples() {
		for _, b := range samples() {
			for _, p := range []int{1, 2, 53, 64, 65, 130, 321, 700} {
				if num.Sign(b.Man) != 0 {
					quoIs(t, a, b, p)
				}
			}
		}
	}
	for _, p := range []int{69999, 70000} {
		quoIs(t, n(-1, 0), n(3, 0), p)
		quoIs(t, long(40, 5), gap(55, 0), p)
		quoIs(t, gap(1200, 0), long(7, 0), p)
	}
}

func TestP5_10_Long(t *testing.T) {
	just, over := gap(4096, 0), gap(4097, 0)
	of(dyadic.QuoDown(just, n(1, 0), 4)).is(t, "QuoDown of 4096 limbs", n(1, 262143), api.OK)
	of(dyadic.QuoUp(just, n(1, 0), 4)).is(t, "QuoUp of 4096 limbs", n(9, 262140), api.OK)
	of(dyadic.QuoUp(just, just, 70000)).is(t, "QuoUp of 4096 limbs by itself", n(1, 0), api.OK)
	of(dyadic.QuoDown(minus(long(4096, 0)), long(4096, 3), 70000)).is(t, "QuoDown of 4096 limbs by its like", n(-1, -3), api.OK)
	of(dyadic.QuoDown(n(1, 0), long(4096, 0), 70000)).is(t, "QuoDown by 4096 limbs", n(1, -262144), api.OK)
	of(dyadic.QuoUp(n(1, 0), long(4096, 0), 4)).is(t, "QuoUp by 4096 limbs", n(9, -262147), api.OK)
	for _, f := range []quotient{dyadic.QuoDown, dyadic.QuoUp} {
		of(f(over, n(1, 0), 4)).fails(t, "of 4097 limbs", api.ErrLimit)
		of(f(n(1, 0), over, 4)).fails(t, "by 4097 limbs", api.ErrLimit)
		of(f(n(0, 0), over, 4)).fails(t, "of nought by 4097 limbs", api.ErrLimit)
		of(f(over, over, 4)).fails(t, "of 4097 limbs by itself", api.ErrLimit)
		of(f(over, n(0, 0), 4)).fails(t, "of 4097 limbs by nought", api.ErrZero)
		of(f(n(0, 0), just, 4)).is(t, "of nought by 4096 limbs", api.Dyadic{}, api.OK)
	}
}

func TestP5_10_Exponents(t *testing.T) {
	of(dyadic.QuoDown(n(1, maxExp), n(1, -1), 4)).fails(t, "QuoDown, one above", api.ErrLimit)
	of(dyadic.QuoDown(n(1, maxExp-1), n(-1, -1), 4)).is(t, "QuoDown to MaxExp", n(-1, maxExp), api.OK)
	of(dyadic.QuoUp(n(1, -maxExp), n(1, 1), 4)).fails(t, "QuoUp, one below", api.ErrLimit)
	of(dyadic.QuoUp(n(1, 1-maxExp), n(1, 1), 70000)).is(t, "QuoUp to -MaxExp", n(1, -maxExp), api.OK)
	of(dyadic.QuoUp(n(1, maxExp), n(1, -maxExp), 4)).fails(t, "QuoUp, far above", api.ErrLimit)
	of(dyadic.QuoUp(n(1, -maxExp), n(1, maxExp), 4)).fails(t, "QuoUp, far below", api.ErrLimit)
	of(dyadic.QuoDown(n(1, maxExp), n(1, maxExp), 4)).is(t, "QuoDown of one by itself", n(1, 0), api.OK)
	// 1/3 to four bits is 5*2^-4 below and 11*2^-5 above: just below the lowest exponent the one has a form and the other has none.
	of(dyadic.QuoDown(n(1, 4-maxExp), n(3, 0), 4)).is(t, "QuoDown, five bits or four", n(5, -maxExp), api.OK)
	of(dyadic.QuoUp(n(1, 4-maxExp), n(3, 0), 4)).fails(t, "QuoUp, five bits or four", api.ErrLimit)
	of(dyadic.QuoUp(n(5, maxExp), n(3, 0), 1)).fails(t, "QuoUp: 2*2^MaxExp", api.ErrLimit)
	of(dyadic.QuoDown(n(5, maxExp), n(3, 0), 1)).is(t, "QuoDown: 2^MaxExp", n(1, maxExp), api.OK)
	for _, e := range []int{maxExp, -maxExp} {
		of(dyadic.QuoDown(n(0, 0), n(3, e), 1)).is(t, "QuoDown of nought", api.Dyadic{}, api.OK)
	}
}

func TestP5_10_Wrong(t *testing.T) {
	for _, f := range []quotient{dyadic.QuoDown, dyadic.QuoUp} {
		for _, p := range []int{0, -1, 70001, most, lowest} {
			of(f(n(4, 0), n(0, 0), p)).fails(t, "all three wrong", api.ErrArg)
			of(f(n(1, 0), n(3, 0), p)).fails(t, "a precision that is none", api.ErrArg)
			of(f(gap(4097, 0), n(0, 0), p)).fails(t, "too long, by nought", api.ErrArg)
		}
		for _, a := range []api.Dyadic{n(1, 0), n(-3, maxExp), {}} {
			of(f(a, n(0, 0), 4)).fails(t, "by nought", api.ErrZero)
		}
		for _, d := range misshapen() {
			of(f(d, n(0, 0), 1)).fails(t, "a not in form, by nought", api.ErrForm)
			of(f(d, n(1, 0), 70000)).fails(t, "a not in form", api.ErrForm)
			of(f(gap(4097, 0), d, 9)).fails(t, "b not in form", api.ErrForm)
			of(f(n(0, 0), d, 9)).fails(t, "b not in form", api.ErrForm)
		}
	}
}
