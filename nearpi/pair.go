package nearpi

import (
	"iter"

	"gnomon/api"
	"gnomon/dyadic"
	"gnomon/nat"
	"gnomon/natmul"
	"gnomon/piconst"
	"gnomon/span"
)

// pair is an m and a k, with m * 2^exp held against k * pi/2. The two have about a thousand bits at most (some 1,700 among the convergents), and no call fails.
type pair struct{ m, k []uint64 }

// timesPlus: c times the pair, and another one.
func (a pair) timesPlus(c []uint64, b pair) pair {
	return pair{mulAdd(a.m, c, b.m), mulAdd(a.k, c, b.k)}
}

func mulAdd(a, c, b []uint64) []uint64 {
	product, _ := natmul.Mul(a, c)
	sum, _ := nat.Add(product, b)
	return sum
}

// step is one of the continued fraction: its last two convergents, and the partial quotient that leads to the next one.
type step struct {
	before, last pair
	quotient     []uint64
}

func (s step) next() pair { return s.last.timesPlus(s.quotient, s.before) }

// steps: those of pi/2 * 2^-exp, whose convergents are m/k.
func steps(exp int) iter.Seq[step] {
	return func(yield func(step) bool) {
		s := step{before: pair{k: nat.Word(1)}, last: pair{m: nat.Word(1)}}
		for quotient := range quotients(exp) {
			s.quotient = quotient
			if !yield(s) {
				return
			}
			s.before, s.last = s.last, s.next()
		}
	}
}

// nearest: the pair with an m of so many bits and a k from 1 on that lie nearest to each other.
func nearest(bits, exp int) pair {
	var best pair
	for s := range steps(exp) {
		if nat.Bits(s.next().m) > bits {
			best = s.best(bits)
			break
		}
	}
	return best
}

// best: the nearest pair, at the first step whose next m has more than so many bits.
//
// Each pair is x times the last one and y times the one before, x and y whole. These two miss on opposite sides, by d and by D, and D is between quotient * d and (quotient + 1) * d. With y = 0 the pair misses by x*d: best is the least x for which m has its bits. With y = 1 it misses by D - x*d, and x is below quotient while m has no bit too many: best is the greatest x. With other y it misses by more than one of these two.
func (s step) best(bits int) pair {
	least := uint64(1) << (bits - 1)
	most := least + (least - 1)
	last := word(s.last.m)
	few := (least-1)/last + 1
	many := (most - word(s.before.m)) / last
	// few*d is less than D - many*d where few + many is at most quotient. But of the pair (1, 0), the last one where all m * 2^exp are below pi/2, the multiples have no k.
	if len(s.last.k) > 0 && nat.Cmp(nat.Word(few+many), s.quotient) <= 0 {
		return s.last.timesPlus(nat.Word(few), pair{})
	}
	return s.last.timesPlus(nat.Word(many), s.before)
}

// depth: the d for which the distance of the pair lies between 2^-d and 2^(1-d).
func depth(near pair, exp int) int {
	for p := start(exp); ; p *= 2 {
		s := distance(near, exp, p)
		sign, _ := span.Sign(s)
		low, _ := dyadic.Top(s.Lo)
		high, _ := dyadic.Top(s.Hi)
		if sign != 0 && low == high {
			return -low
		}
	}
}

// distance: m * 2^exp - k * pi/2, by p bits of pi.
func distance(near pair, exp, p int) api.Span {
	number, _ := span.Point(times(near.m, exp))
	multiple, _ := span.Point(times(near.k, -1))
	pi, _ := piconst.Pi(p)
	multiple, _ = span.Mul(multiple, pi, api.MaxPrec)
	s, _ := span.Sub(number, multiple, api.MaxPrec)
	return s
}

// times: a * 2^exp.
func times(a []uint64, exp int) api.Dyadic {
	d, _ := dyadic.Make(api.Int{Mag: a}, exp)
	return d
}
