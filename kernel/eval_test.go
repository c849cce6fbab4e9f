package kernel_test

import (
	"math"
	"strconv"
	"testing"

	"gnomon/angles"
	"gnomon/api"
	"gnomon/dd"
	"gnomon/fastreduce"
	"gnomon/kernel"
	"gnomon/oracle"
	"gnomon/refval"
)

// evaluates looks whether the three functions of a number are what P24.2 asks for.
func evaluates(t *testing.T, circle oracle.Circle, x float64) {
	t.Helper()
	values := circle.Radians(math.Float64bits(x))
	for fn := api.Sin; fn <= api.Tan; fn++ {
		v, e, err := kernel.Eval(fn, x)
		if err != api.OK || e < -100 || e > -68 || !oracle.InForm(v) || !values.Of(fn).Near(oracle.ExactDD(v), -e) {
			t.Errorf("Eval(%d, %x) is %x, %d, error %d", fn, x, v, e, err)
		}
	}
}

func TestP24_2_AllSizes(t *testing.T) {
	circle := oracle.Around(200)
	all := angles.All()
	const parts = 8
	for part := range parts {
		t.Run(strconv.Itoa(part), func(t *testing.T) {
			t.Parallel()
			for i := part; i < len(all); i += parts {
				evaluates(t, circle, all[i])
			}
		})
	}
}

func TestP24_2_BySpans(t *testing.T) {
	t.Parallel()
	for i, x := range angles.All() {
		if i%13 != 0 {
			continue
		}
		for fn := api.Sin; fn <= api.Tan; fn++ {
			v, e, err := kernel.Eval(fn, x)
			s, _ := refval.Enclose(fn, math.Float64bits(x), 200)
			if err != api.OK || !within(v, s, -e) {
				t.Errorf("Eval(%d, %x) is %x, %d, error %d", fn, x, v, e, err)
			}
		}
	}
}

func TestP24_2_Examples(t *testing.T) {
	circle := oracle.Around(200)
	for _, x := range []float64{1, 0x1p-27, 4, 1e22, math.MaxFloat64, math.Ldexp(6381956970095103, 797), 0x1.6ac5b262ca1ffp+849} {
		evaluates(t, circle, x)
		evaluates(t, circle, -x)
	}
	if v, _, _ := kernel.Eval(api.Sin, 1); v.Hi != 0.8414709848078965 {
		t.Errorf("the sine of 1 is %x", v)
	}
	if v, _, _ := kernel.Eval(api.Sin, 1e22); v.Hi != -0.8522008497671888 {
		t.Errorf("the sine of 10^22 is %x", v)
	}
	v, _, _ := kernel.Eval(api.Cos, math.Ldexp(6381956970095103, 797))
	if size := math.Abs(v.Hi); size < 0x1p-61 || size > 0x1p-60 {
		t.Errorf("the cosine nearest to nought is %x", v)
	}
}

// The sizes at which noughts and poles lie nearest: there the sine or the cosine is all but nought, and the tangent is small or great.
func TestP24_2_NearMultiples(t *testing.T) {
	small, great := 1.0, 1.0
	for _, x := range angles.Nearest() {
		if x < 0x1p-27 {
			continue
		}
		v, _, _ := kernel.Eval(api.Tan, x)
		small, great = min(small, math.Abs(v.Hi)), max(great, math.Abs(v.Hi))
	}
	if small > 0x1p-58 || great < 0x1p60 {
		t.Errorf("tangents from %x to %x", small, great)
	}
}

// byQuadrant: what the chapter's table says of a function in the quadrant k, of a remainder's sine, cosine and tangent.
func byQuadrant(fn api.Fn, k int, sin, cos, tan api.DD) api.DD {
	cot := dd.Neg(dd.Div(dd.Of(1), tan))
	return [4][3]api.DD{
		{sin, cos, tan},
		{cos, dd.Neg(sin), cot},
		{dd.Neg(sin), dd.Neg(cos), tan},
		{dd.Neg(cos), sin, cot},
	}[k][fn-api.Sin]
}

func TestP24_3_Quadrants(t *testing.T) {
	seen := map[[2]int]int{}
	for i, x := range angles.All() {
		if i%3 != 0 {
			continue
		}
		k, rest, _ := fastreduce.Reduce(x)
		sin, _ := kernel.Sin(rest)
		cos, _ := kernel.Cos(rest)
		tan, _ := kernel.Tan(rest)
		for fn := api.Sin; fn <= api.Tan; fn++ {
			v, _, e := kernel.Eval(fn, x)
			want := byQuadrant(fn, k, sin, cos, tan)
			if e != api.OK || !oracle.Within(oracle.ExactDD(v), oracle.ExactDD(want), 67) {
				t.Errorf("Eval(%d, %x) is %x, error %d; in the quadrant %d it is %x", fn, x, v, e, k, want)
			}
		}
		side := 0
		if rest.Hi < 0 {
			side = 1
		}
		seen[[2]int{k, side}]++
	}
	for k := range 4 {
		for side := range 2 {
			if seen[[2]int{k, side}] < 1000 {
				t.Errorf("the quadrant %d was seen %d times with that sign of the remainder", k, seen[[2]int{k, side}])
			}
		}
	}
}

// One number and its opposite in each quadrant, with the signs of the three functions.
func TestP24_3_Signs(t *testing.T) {
	for _, c := range []struct {
		x             float64
		sin, cos, tan float64
	}{
		{0.5, 1, 1, 1}, {-0.5, -1, 1, -1}, {1, 1, 1, 1}, {-1, -1, 1, -1}, {2, 1, -1, -1}, {-2, -1, -1, 1}, {3, 1, -1, -1}, {-3, -1, -1, 1}, {4, -1, -1, 1}, {-4, 1, -1, -1}, {5, -1, 1, -1}, {-5, 1, 1, 1}, {6, -1, 1, -1}, {-6, 1, 1, 1}, {7, 1, 1, 1},
	} {
		for i, want := range []float64{c.sin, c.cos, c.tan} {
			if v, _, e := kernel.Eval(api.Sin+api.Fn(i), c.x); e != api.OK || math.Copysign(1, v.Hi) != want {
				t.Errorf("Eval(%d, %v) is %x, error %d", i+1, c.x, v, e)
			}
		}
	}
}
