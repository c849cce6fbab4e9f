package taylor

import (
	"gnomon/api"
	"gnomon/dyadic"
	"gnomon/nat"
	"gnomon/natdiv"
	"gnomon/natmul"
)

// spare is how many bits are carried beyond those that are asked for. What is off below is some thousands of units at most, at MaxSeries too, so that half as many would do; and the ends, of places + 1 bits, are short enough as they are.
const spare = 32

// near is a number from 0 to 1 that is known nearly: it is units * 2^-places, but for at most off units. units is never above 1 itself, and no step from it meets a limit.
type near struct {
	units  []uint64
	off    uint64
	places int
}

// squareOf: the square of t.
func squareOf(t api.Dyadic, places int) near {
	cut, _ := dyadic.DownAt(size(t), -places)
	units, _ := nat.Shl(cut.Man.Mag, cut.Exp+places)
	// The cut takes less than one unit away, and so less than two from the square, whose rounding takes less than one.
	return near{product(units, units, places), 3, places}
}

// series: g(v) of the square of v, by its sum 1 - v^2/12 + v^4/360 - .. in which each part is v^2 / ((2k + 1) * (2k + 2)) times the one ahead of it.
func series(square near) near {
	places := square.places
	sum, part := twoTo(places), twoTo(places)
	k := uint64(1)
	for ; len(part) > 0; k++ {
		part = product(part, square.units, places)
		part, _, _ = nat.DivWord(part, (2*k+1)*(2*k+2))
		if k%2 == 1 {
			sum, _ = nat.Sub(sum, part)
		} else {
			sum, _ = nat.Add(sum, part)
		}
	}
	// Each part is rounded down, and less than 2 units too small: the part ahead of it is so by less than 2, the square by at most 3, and their product is divided by 12 at least. What is left out is smaller than its first part, and that is below 2 units.
	return near{sum, 2 * k, places}
}

// doubled: g(2v), where g is g(v), of a quarter of the square of v, which is at most 1/4.
func (g near) doubled(quarter near) near {
	once := product(quarter.units, g.units, g.places)
	units, _ := nat.Sub(g.units, product(once, g.units, g.places))
	// Two products are rounded down, and all factors are at most 1.
	return near{units, g.off + quarter.off + 2, g.places}
}

// root: the square root of g, which is above 1/4, so that its root is off by no more than it is itself.
func (g near) root() near {
	raised, _ := nat.Shl(g.units, g.places)
	units, _, _ := natdiv.Root(raised)
	return near{units, g.off + 1, g.places}
}

// lessened: 1 less half of the square times g.
func lessened(square, g near) near {
	half, _ := nat.Shr(product(square.units, g.units, g.places), 1)
	units, _ := nat.Sub(twoTo(g.places), half)
	// The product is off by what both factors are and one more, the half of it by half as much and one more: that is no more than both.
	return near{units, square.off + g.off, g.places}
}

// part: the number divided by 2^n, rounded down, n nought or 2 at least: then what it is off by does not grow, as long as that is 2 units or more.
func (a near) part(n int) near {
	units, _ := nat.Shr(a.units, n)
	return near{units, a.off, a.places}
}

// span: all that the number may be, as far as it lies from 0 to 1.
func (a near) span() api.Span {
	least, _ := nat.Sub(a.units, nat.Word(a.off))
	most, _ := nat.Add(a.units, nat.Word(a.off))
	if one := twoTo(a.places); nat.Cmp(most, one) > 0 {
		most = one
	}
	lo, _ := dyadic.Make(api.Int{Mag: least}, -a.places)
	hi, _ := dyadic.Make(api.Int{Mag: most}, -a.places)
	return api.Span{Lo: lo, Hi: hi}
}

// product: a * b, both counted in units of 2^-places, rounded down.
func product(a, b []uint64, places int) []uint64 {
	long, _ := natmul.Mul(a, b)
	short, _ := nat.Shr(long, places)
	return short
}

func twoTo(places int) []uint64 {
	one, _ := nat.Shl(nat.Word(1), places)
	return one
}
