package refreduce

import (
	"gnomon/api"
	"gnomon/dyadic"
	"gnomon/num"
	"gnomon/piconst"
)

// spare is how many bits finer than x is great the units are at least. So x, of 53 bits, is a whole number of them; and as no binary64 number lies nearer than some 2^-62 to half way between two multiples, so many bits of pi hardly ever leave a multiple open.
const spare = 64

// counted are x and pi/2, counted in units of 2^-places: x exactly, pi/2 rounded down, so that it lies between half and half + 1. No step from them meets a limit.
type counted struct {
	x, half api.Int
	places  int
}

// count: x, of a size above 3/4, and pi/2, in units that are bits finer than x is great, which are spare at least.
func count(x api.Dyadic, bits int) counted {
	top, _ := dyadic.Top(x)
	places := top + bits
	units, _ := num.Shl(x.Man, x.Exp+places)
	half, _ := piconst.FloorPi(places - 1)
	return counted{units, api.Int{Mag: half}, places}
}

// nearest: the k for which k * pi/2 is nearest to x, pi taken to ever more bits. Between x/half and x/(half + 1) lies what is rounded to k, so where both go to one number, that is k.
func nearest(x api.Dyadic, bits int) api.Int {
	for ; ; bits *= 2 {
		c := count(x, bits)
		above, _ := num.Add(c.half, num.Of(1))
		k, _ := num.NearDiv(c.x, c.half)
		other, _ := num.NearDiv(c.x, above)
		if order, _ := num.Cmp(k, other); order == 0 {
			return k
		}
	}
}

// remainder: a k, and a span of x - k*pi/2. With spare bits beyond p the bounds of what is left lie far less than a step of the ends' grid apart. Where k is not the nearest, x lies so near to half way that the remainder is hardly greater than pi/4.
func remainder(x api.Dyadic, p int) (api.Int, api.Span) {
	c := count(x, p+spare)
	k, _ := num.NearDiv(c.x, c.half)
	low, high := c.left(k)
	grid := p + 8
	lo, _ := num.FloorShr(low, c.places-grid)
	hi, _ := num.CeilShr(high, c.places-grid)
	return k, api.Span{Lo: multipleOf(lo, grid), Hi: multipleOf(hi, grid)}
}

// left: bounds of x - k*pi/2, counted as x is. k times half is off by less than k.
func (c counted) left(k api.Int) (low, high api.Int) {
	multiple, _ := num.Mul(k, c.half)
	high, _ = num.Sub(c.x, multiple)
	low, _ = num.Sub(high, k)
	if k.Neg {
		return high, low
	}
	return low, high
}

// multipleOf: m * 2^-grid.
func multipleOf(m api.Int, grid int) api.Dyadic {
	d, _ := dyadic.Make(m, -grid)
	return d
}
