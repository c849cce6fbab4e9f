package nearpi

import (
	"iter"

	"gnomon/api"
	"gnomon/nat"
	"gnomon/natdiv"
	"gnomon/piconst"
)

// fraction is over/under; where under is nought, it lies beyond all numbers.
type fraction struct{ over, under []uint64 }

// start: bits of pi with which to begin at an exponent. They may be too few: whoever needs more doubles them.
func start(exp int) int { return 64 + max(exp, 0) }

// quotients: the partial quotients of pi/2 * 2^-exp, as many as all the bits tell that pi can be asked for: some twenty thousand.
func quotients(exp int) iter.Seq[[]uint64] {
	return func(yield func([]uint64) bool) {
		told := 0
		for p := start(exp); p <= api.MaxPrec; p *= 2 {
			low, high := between(p, exp)
			for i, quotient := range common(low, high) {
				if i < told {
					continue
				}
				if !yield(quotient) {
					return
				}
				told++
			}
		}
	}
}

// between: two fractions between which pi/2 * 2^-exp lies, by p bits of pi.
func between(p, exp int) (low, high fraction) {
	floor, _ := piconst.FloorPi(p)
	above, _ := nat.Add(floor, nat.Word(1))
	under, _ := nat.Shl(nat.Word(1), p+1+exp)
	return fraction{floor, under}, fraction{above, under}
}

// common: the partial quotients, with their places, that all the numbers between a and b have alike: while the floors of the two ends are one, so are those of all that lies between.
func common(a, b fraction) iter.Seq2[int, []uint64] {
	return func(yield func(int, []uint64) bool) {
		for i := 0; len(a.under) > 0 && len(b.under) > 0; i++ {
			quotient, restA, _ := natdiv.QuoRem(a.over, a.under)
			other, restB, _ := natdiv.QuoRem(b.over, b.under)
			if nat.Cmp(quotient, other) != 0 || !yield(i, quotient) {
				return
			}
			a, b = fraction{a.under, restA}, fraction{b.under, restB}
		}
	}
}

// word: a natural below 2^64, as it is counted with.
func word(a []uint64) uint64 {
	if len(a) == 0 {
		return 0
	}
	return a[0]
}
