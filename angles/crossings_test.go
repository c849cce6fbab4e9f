package angles

import (
	"math"
	"testing"

	"gnomon/api"
	"gnomon/oracle"
)

// The tests of the rounding are worth what these are: of each function some values lie as near to a midpoint as any number of bits tells, up to a hundred.
func TestCrossingsComeNear(t *testing.T) {
	t.Parallel()
	c := oracle.Around(200)
	counts := map[api.Fn]map[int]int{}
	for fn := api.Sin; fn <= api.Tan; fn++ {
		counts[fn] = map[int]int{}
	}
	list := Crossings()
	for i := 0; i < len(list); i += 2 { // the opposites are as near
		values := c.Radians(math.Float64bits(list[i]))
		for fn := api.Sin; fn <= api.Tan; fn++ {
			for bits := 60; bits < 105 && !values.Of(fn).Clear(api.Double, bits); bits += 5 {
				counts[fn][bits]++
			}
		}
	}
	for fn, nearer := range counts {
		for bits := 60; bits < 100; bits += 5 {
			if among := nearer[bits] - nearer[bits+5]; among < 10 {
				t.Errorf("of function %d only %d values lie from 2^-%d to 2^-%d off a midpoint", fn, among, bits+5, bits)
			}
		}
	}
}

func TestHardestAreHard(t *testing.T) {
	c := oracle.Around(200)
	bounds := map[float64]struct {
		fn   api.Fn
		bits int
	}{0x1.dffffffffff1fp-22: {api.Tan, 132}, 0x1.598bae9e632f6p-7: {api.Sin, 112}, 0x1.50486b2f87014p-5: {api.Tan, 111}, 0x1.34ec2f9fc9cp+1: {api.Cos, 112}}
	for _, x := range Hardest() {
		hard := bounds[math.Abs(x)]
		if v := c.Radians(math.Float64bits(x)).Of(hard.fn); v.Clear(api.Double, hard.bits) || !v.Clear(api.Double, hard.bits+1) {
			t.Errorf("function %d of %x lies not about 2^-%d off a midpoint", hard.fn, x, hard.bits)
		}
	}
}
