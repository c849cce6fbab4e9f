// Package angles has the numbers on which reductions by pi/2 are tried, and the remainders on which functions of them are. Tests alone call it.
package angles

import (
	"math"
	"slices"

	"gnomon/nearpi"
	"gnomon/oracle"
)

// least and moderate are the sizes at which reductions begin, and at which the parts of pi/2 are no longer asked.
const (
	least    = 0x1p-27
	moderate = 0x1p20
)

// All: numbers of both signs and all sizes from 2^-27 on.
func All() []float64 {
	return slices.Concat(Edges(), Powers(), Turns(), Aside(), Ruleless(4000, 1024), Ruleless(4000, 20), Hard())
}

// Edges: the sizes that the chapters name, and what stands beside them.
func Edges() []float64 {
	return beside(3, least, 0x1p-26, 0x1p-13, 0x1p-12, 0x1p-11, 0.5, 0.75, 51.0/64, 0.79, 13.0/16, 1, moderate/2, moderate, 2*moderate, 0x1p31, 0x1p32, 0x1p52, 0x1p53, 0x1p54, 1e22, 0x1p63, 0x1p64, 0x1p1000, 0x1p1023, math.MaxFloat64)
}

// Powers: at each exponent the least number, the greatest one, and one between them.
func Powers() []float64 {
	var out []float64
	for exp := -27; exp < 1024; exp++ {
		for _, m := range []float64{1, 0x1.fffffffffffffp0, 0x1.5555555555555p0} {
			x := math.Ldexp(m, exp)
			out = append(out, x, -x)
		}
	}
	return out
}

// eighths: whole numbers n, of which n*pi/4 is below 2^20: the first ones, the last ones, and some between them, even and odd.
func eighths() []int {
	const beyond = 1335089 // times pi/4 is above 2^20
	var out []int
	for n := 1; n < beyond; n += 1 + n/65 {
		out = append(out, n)
	}
	for n := range 12 {
		out = append(out, beyond-1-n)
	}
	return out
}

// Turns: the numbers nearest to multiples of pi/4, and what stands beside them: these are the nearest to multiples of pi/2, and to the middle between two.
func Turns() []float64 {
	quarter := oracle.NewQuarter()
	var out []float64
	for _, n := range eighths() {
		out = append(out, beside(2, quarter.Eighths(n))...)
	}
	return out
}

// Aside: numbers that lie 2^-j beside multiples of pi/2, or nearly so much, for each j down to where they fall together with these.
func Aside() []float64 {
	quarter := oracle.NewQuarter()
	var out []float64
	for i, n := range eighths() {
		if n%2 != 0 {
			continue
		}
		x := quarter.Eighths(n)
		for j := 1 + i%3; j < 54; j += 3 {
			step := math.Ldexp(1, -j)
			out = append(out, beside(0, x-step, x+step, x-float64(1.5*step), x+float64(1.5*step))...)
		}
		out = append(out, beside(2, x-0x1p-12, x+0x1p-12, x-0x1p-13, x+0x1p-13)...)
	}
	return out
}

// Ruleless: so many numbers without a rule, below 2^high by size.
func Ruleless(n, high int) []float64 {
	var out []float64
	for _, w := range oracle.Words(n) {
		out = append(out, oracle.FloatOf(w, -27, high))
	}
	return out
}

// Hard: for each exponent the number of 53 bits that lies nearest to a multiple of pi/2, its half and its double, and what stands beside them.
func Hard() []float64 {
	var out []float64
	for _, x := range Nearest() {
		out = append(out, beside(1, x, x/2, float64(2*x))...)
	}
	return out
}

// Nearest: these numbers alone.
func Nearest() []float64 {
	var out []float64
	for exp := -64; exp <= 971; exp++ {
		near, _ := nearpi.Nearest(53, exp)
		out = append(out, math.Ldexp(float64(near.Man), exp))
	}
	return out
}

// beside: the numbers, of both signs, and as many as n next to each on either side, but for those that are smaller than least or no numbers.
func beside(n int, list ...float64) []float64 {
	var out []float64
	for _, x := range list {
		b := math.Float64bits(x)
		for c := b - uint64(n); c <= b+uint64(n); c++ {
			if y := math.Float64frombits(c); oracle.IsFinite(y) && math.Abs(y) >= least {
				out = append(out, y, -y)
			}
		}
	}
	return out
}
