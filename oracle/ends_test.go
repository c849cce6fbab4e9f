package oracle

import (
	"math"
	"testing"

	"gnomon/api"
)

func TestEndsOfReals(t *testing.T) {
	for _, c := range []struct {
		v         Real
		near, far float64
	}{
		{about(1, 3, 0), 3, 4}, {about(-1, 3, 0), -3, -4}, {about(1, 5, -4), 0.3125, 0.375}, {about(-1, 1, 10), -1024, -2048}, {about(1, 0, -3), 0, 0.125},
	} {
		if near, far := c.v.Ends(); near.Cmp(Exact(c.near)) != 0 || far.Cmp(Exact(c.far)) != 0 {
			t.Errorf("%v lies from %v to %v", c.v, Nearest(near), Nearest(far))
		}
	}
}

func TestNearToReals(t *testing.T) {
	for _, c := range []struct {
		v Real
		x float64
		e int // the last e with x within 2^-e of all that v may be
	}{
		{about(1, 1<<20, -20), 1, 20},         // the far end is 1 + 2^-20
		{about(1, 1<<20, -20), 1 + 0x1p-8, 8}, // the near end counts
		{about(1, 1<<20, -20), 1 - 0x1p-8, 7}, // the far one does: a hair more than 2^-8 of it
		{about(-1, 1<<20, -20), -1 - 0x1p-8, 8}, {about(-1, 1<<20, -20), 1, -1}, {about(1, 1<<20, -20), 0, 0},
	} {
		for e := -4; e < 40; e++ {
			if c.v.Near(Exact(c.x), e) != (e <= c.e) {
				t.Errorf("%x is within 2^-%d of %v: %v", c.x, e, c.v, e > c.e)
			}
		}
	}
}

// What a circle of 200 bits tells is narrower than 2^-190 of itself.
func TestCircleIsNarrow(t *testing.T) {
	circle := Around(200)
	for _, x := range []float64{0x1p-27, 0.5, 1, math.Pi, 1e22, math.MaxFloat64, math.Ldexp(6381956970095103, 797)} {
		v := circle.Radians(math.Float64bits(x))
		for fn := api.Sin; fn <= api.Tan; fn++ {
			near, far := v.Of(fn).Ends()
			if !Within(near, far, 190) {
				t.Errorf("function %d of %x lies from %v to %v", fn, x, near, far)
			}
		}
	}
}
