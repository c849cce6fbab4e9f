package angles

import (
	"math"
	"slices"

	"gnomon/api"
	"gnomon/oracle"
)

// greatest and smallest are the sizes between which the Hi of a remainder lies that layer 24 takes, if it isn't nought.
const (
	greatest = 13.0 / 16
	smallest = 0x1p-70
)

// Remainders: double-doubles of both signs that layer 24 takes, but for noughts: over all rows of the table, about its rows and the middles between them, of all sizes, with Los of nought, of both signs and of all sizes up to the greatest that are in form.
func Remainders() []api.DD {
	var out []api.DD
	for _, hi := range slices.Concat(about(), between(), binades()) {
		if hi < smallest || hi > greatest {
			continue
		}
		for _, lo := range lows(hi) {
			if a := (api.DD{Hi: hi, Lo: lo}); oracle.InForm(a) {
				out = append(out, a, api.DD{Hi: -hi, Lo: -lo})
			}
		}
	}
	return out
}

// about: the rows' angles, the middles between two of them, and what stands beside these; and so of the greatest remainder that a reduction tells, and of pi/4.
func about() []float64 {
	list := []float64{51.0 / 64, math.Pi / 4}
	for n := range 2*api.MaxRow + 1 {
		list = append(list, float64(n)/(2*api.Steps))
	}
	var out []float64
	for _, x := range list {
		for b := math.Float64bits(x) - 2; b <= math.Float64bits(x)+2; b++ {
			out = append(out, math.Float64frombits(b))
		}
		for i := 9; i < 60; i += 7 { // some steps away, too
			step := math.Ldexp(1, -i)
			out = append(out, x-step, x+step)
		}
	}
	return out
}

// between: numbers without a rule.
func between() []float64 {
	var out []float64
	for _, w := range oracle.Words(1000) {
		out = append(out, float64(float64(w>>11)*0x1p-53))
	}
	return out
}

// binades: at each exponent the least number, the greatest one, and others.
func binades() []float64 {
	var out []float64
	for exp := -70; exp < 0; exp++ {
		for _, m := range []float64{1, 0x1.0000000000001p0, 0x1.5555555555555p0, 0x1.6a09e667f3bcdp0, 0x1.fffffffffffffp0} {
			out = append(out, math.Ldexp(m, exp))
		}
	}
	return out
}

// lows: Los of a Hi, some of which may be too great for it.
func lows(hi float64) []float64 {
	half := (math.Nextafter(hi, 2) - hi) / 2
	out := []float64{0}
	for _, size := range []float64{half, math.Nextafter(half, 0), half / 2, half / 3, half / 1000, float64(half * 0x1p-60), 0x1p-300, math.SmallestNonzeroFloat64} {
		out = append(out, size, -size)
	}
	return out
}
