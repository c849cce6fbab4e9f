package oracle

import (
	"math"
	"math/big"
	"testing"

	"gnomon/api"
)

func TestRemainderAgreesWithFloats(t *testing.T) {
	p := NewQuarter()
	for _, c := range []struct {
		x, rest float64
		q       int
	}{
		{0.5, 0.5, 0}, {-0.5, -0.5, 0}, {1, 1 - math.Pi/2, 1}, {-1, math.Pi/2 - 1, 3}, {3, 3 - math.Pi, 2}, {-3, math.Pi - 3, 2}, {4, 4 - 3*math.Pi/2, 3}, {-4, 3*math.Pi/2 - 4, 1}, {100, 100 - 32*math.Pi, 0}, {1e22, 0.5506, 3},
	} {
		q, rest := p.Remainder(c.x, new(big.Float))
		if got := Nearest(rest); q != c.q || math.Abs(got-c.rest) > 1e-4 {
			t.Errorf("%v leaves %v in the quadrant %d", c.x, got, q)
		}
	}
}

// A remainder by another multiple than the nearest is told where it is the one that is asked about.
func TestRemainderByTheMultipleAskedFor(t *testing.T) {
	p := NewQuarter()
	for _, c := range []struct {
		x, t float64
		q    int
	}{
		{0.79, 0.79, 0}, {0.79, 0.79 - math.Pi/2, 1}, {-0.79, -0.79, 0}, {-0.79, math.Pi/2 - 0.79, 3}, {5, 5, 0}, {5, 5 - math.Pi, 2},
	} {
		if q, rest := p.Remainder(c.x, Exact(c.t)); q != c.q || math.Abs(Nearest(rest)-c.t) > 1e-9 {
			t.Errorf("%v leaves %v in the quadrant %d, asked about %v", c.x, Nearest(rest), q, c.t)
		}
	}
}

func TestGoodRemainder(t *testing.T) {
	p := NewQuarter()
	rest := Less(Exact(1), p.half)
	hi := Nearest(rest)
	lo := Nearest(Less(rest, Exact(hi)))
	off := func(part float64) api.DD { return api.DD{Hi: hi, Lo: lo + part*hi} }
	for _, c := range []struct {
		q    int
		t    api.DD
		want bool
	}{
		{1, off(0), true}, {0, off(0), false}, {5, off(0), false}, {-3, off(0), false},
		{1, off(0x1.fp-81), true}, {1, off(-0x1.fp-81), true}, {1, off(0x1.1p-80), false}, {1, off(-0x1.1p-80), false},
		{0, api.DD{Hi: 1}, false},          // above 51/64
		{1, api.DD{Hi: lo, Lo: hi}, false}, // not in form
		{1, api.DD{Hi: math.Inf(1)}, false}, {0, api.DD{}, false}, {1, api.DD{}, false},
	} {
		if p.Good(1, c.q, c.t) != c.want {
			t.Errorf("%d, %x is a good remainder of 1: %v", c.q, c.t, !c.want)
		}
	}
	if !p.Good(51.0/64, 0, api.DD{Hi: 51.0 / 64}) || p.Good(math.Nextafter(51.0/64, 1), 0, api.DD{Hi: math.Nextafter(51.0/64, 1)}) {
		t.Errorf("51/64 is not the greatest remainder")
	}
}

func TestEighthsOfATurn(t *testing.T) {
	for n, want := range map[int]float64{0: 0, 1: math.Pi / 4, 2: math.Pi / 2, -4: -math.Pi, 3: 2.356194490192345} {
		if got := NewQuarter().Eighths(n); got != want {
			t.Errorf("%d times pi/4 is %v", n, got)
		}
	}
}
