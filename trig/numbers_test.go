package trig_test

import (
	"math"
	"slices"
	"sync"
	"testing"

	"gnomon/angles"
	"gnomon/api"
	"gnomon/oracle"
	"gnomon/trig"
)

const (
	quiet = 0x7ff8000000000001
	one   = 0x3ff0000000000000
	sign  = 1 << 63
)

func bitsOf(x float64) uint64 { return math.Float64bits(x) }

var (
	radians   = [...]api.Fn{api.Sin, api.Cos, api.Tan}
	functions = [...]api.Fn{api.Sin, api.Cos, api.Tan, api.SinPi, api.CosPi, api.TanPi}
	modes     = [...]trig.Mode{trig.Fast, trig.Slow}
)

// made: a Lib of that road.
func made(t *testing.T, m trig.Mode) *trig.Lib {
	t.Helper()
	l, e := trig.New(m)
	if l == nil || e != api.OK {
		t.Fatalf("New(%d) is %v, error %d", m, l, e)
	}
	return l
}

// called: what a Lib answers for a function.
func called(l *trig.Lib, fn api.Fn, b uint64) (uint64, bool) {
	switch fn {
	case api.Sin:
		return l.Sin(b)
	case api.Cos:
		return l.Cos(b)
	}
	return l.Tan(b)
}

// tiny: numbers of both signs and all sizes below 2^-26, subnormal ones too, and those about 2^-27 and 2^-26.
func tiny() []float64 {
	patterns := []uint64{1, 2, 3, 5, 1 << 20, 1<<51 - 1, 1 << 51, 1<<52 - 1, 1 << 52, 1<<52 + 1, 0x3e4d12ed0af1a27e, 0x3e4d12ed0af1a27f}
	for exp := -1074; exp < -27; exp += 9 {
		patterns = append(patterns, bitsOf(math.Ldexp(1, exp)), bitsOf(math.Ldexp(0x1.5555555555555p0, exp)), bitsOf(math.Ldexp(0x1.fffffffffffffp0, exp)))
	}
	for _, edge := range []float64{0x1p-28, 0x1p-27, 0x1p-26, 0x1p-25} {
		for b := bitsOf(edge) - 40; b <= bitsOf(edge)+40; b++ {
			patterns = append(patterns, b)
		}
		for i := range uint64(40) { // and all over the sizes that follow
			patterns = append(patterns, bitsOf(edge)+i<<46+i*0x9e3779b97f4a7c15>>20)
		}
	}
	var out []float64
	for _, b := range patterns {
		x := math.Float64frombits(b)
		out = append(out, x, -x)
	}
	return out
}

// numbers: of both signs and all sizes, of which some have values very near to midpoints, some are nearest to multiples of pi/2.
func numbers() []float64 {
	out := slices.Concat(tiny(), angles.Hardest(), angles.Crossings(), angles.Edges())
	for _, x := range angles.Nearest() {
		out = append(out, x, -x)
	}
	for i, x := range angles.All() {
		if i%7 == 0 {
			out = append(out, x)
		}
	}
	return out
}

// asked is a function at a number, and what the oracle tells of it.
type asked struct {
	fn    api.Fn
	b     uint64
	want  uint64 // RN of f(x)
	clear bool   // whether f(x) lies farther than 2^-64 of itself from each midpoint
	far   bool   // and farther than 2^-128
}

// ask: the three functions at a number.
func ask(c oracle.Circle, x float64) []asked {
	var out []asked
	values := c.Radians(bitsOf(x))
	for _, fn := range radians {
		v := values.Of(fn)
		want, ok := v.Rounded(api.Double)
		if !ok {
			panic("a value nearer to a midpoint than the circle tells")
		}
		out = append(out, asked{fn, bitsOf(x), want, v.Clear(api.Double, 64), v.Clear(api.Double, 128)})
	}
	return out
}

const parts = 8

// inParts runs f for all places below n, some at a time.
func inParts(n int, f func(i int)) {
	var group sync.WaitGroup
	for part := range parts {
		group.Go(func() {
			for i := part; i < n; i += parts {
				f(i)
			}
		})
	}
	group.Wait()
}

// questions: the three functions of the numbers. They are told once, as this takes a while.
var questions = sync.OnceValue(func() []asked {
	c := oracle.Around(200)
	list := numbers()
	told := make([][]asked, len(list))
	inParts(len(list), func(i int) { told[i] = ask(c, list[i]) })
	return slices.Concat(told...)
})

// The tests are worth what the questions are.
func TestQuestionsHaveWhatIsNamed(t *testing.T) {
	t.Parallel()
	near, nearest := map[api.Fn]int{}, 0
	exponents := map[int]int{}
	for _, a := range questions() {
		if !a.clear {
			near[a.fn]++
		}
		if !a.far {
			nearest++
		}
		exponents[math.Ilogb(math.Float64frombits(a.b))]++
	}
	for _, fn := range radians {
		if near[fn] < 500 {
			t.Errorf("only %d values of function %d lie near to a midpoint", near[fn], fn)
		}
	}
	if nearest == 0 {
		t.Errorf("no value lies within 2^-128 of a midpoint")
	}
	for exp := -27; exp < 1024; exp++ {
		if exponents[exp] < 6 {
			t.Errorf("only %d questions from 2^%d on", exponents[exp], exp)
		}
	}
}
