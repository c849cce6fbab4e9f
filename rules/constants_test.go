package rules

import (
	"math"
	"testing"

	"gnomon/api"
	"gnomon/nearpi"
	"gnomon/piconst"
)

func plain(name string, run func() ([]limbs, api.Errno)) call {
	return call{name, 0, func([]limbs) ([]limbs, api.Errno) { return run() }}
}

func list(a limbs, e api.Errno) ([]limbs, api.Errno) { return []limbs{a}, e }

// near: the fields of an answered Near, the depth as a whole number.
func near(a nearpi.Near, e api.Errno) ([]limbs, api.Errno) {
	size := uint64(max(a.Depth, -a.Depth))
	out := []limbs{a.K, flag(a.Depth < 0)}
	for _, w := range []uint64{a.Man, size} {
		if w != 0 {
			out = append(out, limbs{w})
		}
	}
	return out, e
}

func atPrecision(p int) []call {
	out := []call{
		plain("piconst.FloorPi", func() ([]limbs, api.Errno) { return list(piconst.FloorPi(p)) }),
		plain("piconst.FloorInv", func() ([]limbs, api.Errno) { return list(piconst.FloorInv(p)) }),
		plain("piconst.Pi", func() ([]limbs, api.Errno) { return ends(piconst.Pi(p)) }),
		plain("piconst.Inv", func() ([]limbs, api.Errno) { return ends(piconst.Inv(p)) }),
	}
	for _, n := range []int{1, 2, 3, 5, 239, 1 << 32, 1<<32 + 1, math.MaxInt, math.MinInt} {
		out = append(out, plain("piconst.Arctan", func() ([]limbs, api.Errno) { return ends(piconst.Arctan(n, p)) }))
	}
	return out
}

func constantCalls() []call {
	var out []call
	for _, p := range []int{0, 1, 2, 3, 63, 64, 65, 1000, 70001, math.MaxInt, math.MinInt} {
		out = append(out, atPrecision(p)...)
	}
	for _, n := range []int{-1, 0, 1, 2, 7, 999, 1000, 1001, math.MaxInt, math.MinInt} {
		out = append(out,
			plain("nearpi.Terms", func() ([]limbs, api.Errno) { return list(nearpi.Terms(n)) }),
			plain("nearpi.Convergent", func() ([]limbs, api.Errno) {
				p, q, e := nearpi.Convergent(n)
				return []limbs{p, q}, e
			}))
	}
	for _, bits := range []int{0, 1, 2, 53, 54, math.MaxInt, math.MinInt} {
		for _, exp := range []int{-65, -64, -1, 0, 1, 797, 971, 972, math.MaxInt, math.MinInt} {
			out = append(out, plain("nearpi.Nearest", func() ([]limbs, api.Errno) { return near(nearpi.Nearest(bits, exp)) }))
		}
	}
	return out
}

func TestConstantsKeepTheRules(t *testing.T) {
	for _, c := range constantCalls() {
		holds(t, c, nil)
	}
}

// toldAnew: what was answered and is written over, with all its room, changes no later answer, and what is called between doesn't either.
func toldAnew(t *testing.T, calls []call) {
	t.Helper()
	var told [][]limbs
	for _, c := range calls {
		answer, _ := c.run(nil)
		told = append(told, cloneAll(answer))
		for _, a := range answer {
			scribble(a)
		}
	}
	for i, c := range calls {
		if answer, _ := c.run(nil); !sameAll(answer, told[i]) {
			t.Errorf("%s: another answer behind other calls", c.name)
		}
	}
}

func TestConstantsAreToldAnew(t *testing.T) {
	toldAnew(t, constantCalls())
}
