package rules

import (
	"math"
	"slices"
	"testing"

	"gnomon/api"
	"gnomon/fastreduce"
	"gnomon/nat"
	"gnomon/payne"
)

// remainder: a quadrant and a remainder, as lists.
func remainder(quadrant int, a api.DD, e api.Errno) ([]limbs, api.Errno) {
	out, _ := halves(a)
	return append(out, nat.Word(uint64(quadrant))), e
}

// window: four words, as lists.
func window(w [4]uint64, e api.Errno) ([]limbs, api.Errno) {
	var out []limbs
	for _, x := range w {
		out = append(out, nat.Word(x))
	}
	return out, e
}

func atPlace(i int) []call {
	return []call{
		plain("payne.Word", func() ([]limbs, api.Errno) {
			w, e := payne.Word(i)
			return []limbs{nat.Word(w)}, e
		}),
		plain("payne.Window", func() ([]limbs, api.Errno) { return window(payne.Window(i)) }),
	}
}

// reducing: the calls of layers 21 and 22 at a float. That Cody answers false is held here as an error, beside which there is nothing.
func reducing(x float64) []call {
	return []call{
		plain("payne.Reduce", func() ([]limbs, api.Errno) { return remainder(payne.Reduce(x)) }),
		plain("fastreduce.Reduce", func() ([]limbs, api.Errno) { return remainder(fastreduce.Reduce(x)) }),
		plain("fastreduce.Cody", func() ([]limbs, api.Errno) {
			quadrant, a, ok := fastreduce.Cody(x)
			if !ok {
				return remainder(quadrant, a, api.ErrHard)
			}
			return remainder(quadrant, a, api.OK)
		}),
	}
}

func fastReductionCalls() []call {
	out := []call{plain("fastreduce.Parts", func() ([]limbs, api.Errno) {
		parts := fastreduce.Parts()
		return words(parts[:]...)
	})}
	for _, i := range []int{math.MinInt, -1, 0, 1, 19, 20, 63, 64, 1000, 1023, 1024, 1025, math.MaxInt} {
		out = append(out, atPlace(i)...)
	}
	more := []float64{0x1p-27, math.Nextafter(0x1p-27, 0), math.Pi / 4, 51.0 / 64, 0.8, 3, 0x1p20, math.Nextafter(0x1p20, 0), 1e22, 0x1.6ac5b262ca1ffp+849}
	for _, x := range slices.Concat(someFloats(), more) {
		out = slices.Concat(out, reducing(x), reducing(-x))
	}
	for exp := -1074; exp < 1024; exp++ {
		x := math.Ldexp(0x1.5555555555555p0, exp)
		out = slices.Concat(out, reducing(x), reducing(-x))
	}
	return out
}

func TestFastReductionsKeepTheRules(t *testing.T) {
	for _, c := range fastReductionCalls() {
		holds(t, c, nil)
	}
}

func TestFastReductionsAreToldAnew(t *testing.T) {
	toldAnew(t, fastReductionCalls())
}
