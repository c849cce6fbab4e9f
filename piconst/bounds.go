package piconst

import (
	"gnomon/nat"
	"gnomon/natdiv"
	"gnomon/natmul"
)

// bounds are two naturals with a number between them: 2^p times the one that is looked for, p being told beside them. All of them are some thousands of limbs long at most, and no call fails but where it says so.
type bounds struct{ low, high []uint64 }

// arctan: bounds of 2^p * arctan(1/n), by its series 1/n - 1/(3*n^3) + 1/(5*n^5) - ..
func arctan(n uint64, p int) bounds {
	square, _ := natmul.Sqr(nat.Word(n)) // of 2^32 it is no word
	power, _, _ := nat.DivWord(twoTo(p), n)
	var sum []uint64
	odd := uint64(1)
	for ; len(power) > 0; odd += 2 {
		term, _, _ := nat.DivWord(power, odd)
		if odd%4 == 1 {
			sum, _ = nat.Add(sum, term)
		} else {
			sum, _ = nat.Sub(sum, term)
		}
		power, _, _ = natdiv.QuoRem(power, square)
	}
	// The floor of a floor's quotient is that of the whole quotient, so each term is off by less than 1; and so is the sum for want of the terms below 1, whose signs alternate. Odd counts all that, about twice over.
	return bounds{less(sum, odd), more(sum, odd)}
}

// pi: bounds of 2^p * pi, by Machin's formula: pi = 16*arctan(1/5) - 4*arctan(1/239).
func pi(p int) bounds {
	great, small := arctan(5, p).times(16), arctan(239, p).times(4)
	low, _ := nat.Sub(great.low, small.high)
	high, _ := nat.Sub(great.high, small.low)
	return bounds{low, high}
}

// inverse: bounds of 2^p * 2/pi. The greater pi, the less it is.
func inverse(p int) bounds {
	b := pi(p)
	two := twoTo(2*p + 1)
	low, _, _ := natdiv.QuoRem(two, b.high)
	high, _, _ := natdiv.QuoRem(two, b.low)
	return bounds{low, more(high, 1)}
}

func (b bounds) times(w uint64) bounds {
	low, _ := nat.MulWord(b.low, w)
	high, _ := nat.MulWord(b.high, w)
	return bounds{low, high}
}

// coarser: the bounds counted in units 2^n times as great, rounded outward.
func (b bounds) coarser(n int) bounds {
	low, _ := nat.Shr(b.low, n)
	high, _ := nat.Shr(b.high, n)
	return bounds{low, more(high, 1)}
}

func twoTo(p int) []uint64 {
	a, _ := nat.Shl(nat.Word(1), p)
	return a
}

func more(a []uint64, w uint64) []uint64 {
	sum, _ := nat.Add(a, nat.Word(w))
	return sum
}

// less: a - w, or nought where that lies below it: beside its error Sub answers none.
func less(a []uint64, w uint64) []uint64 {
	rest, _ := nat.Sub(a, nat.Word(w))
	return rest
}
