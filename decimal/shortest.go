package decimal

import (
	"strings"

	"gnomon/api"
	"gnomon/binary"
	"gnomon/dyadic"
	"gnomon/nat"
	"gnomon/natdiv"
	"gnomon/natmul"
	"gnomon/num"
	"gnomon/round"
)

// A dyadic with n twos below its fraction's line is a whole number of units of 10^-n: so all that is looked for here is looked for among whole numbers, exactly. They have below 800 digits, and no call fails.

// ten: 10^n, for n from 0 on.
func ten(n int) api.Dyadic {
	fives, _ := natmul.Pow(nat.Word(5), n)
	d, _ := dyadic.Make(api.Int{Mag: fives}, n)
	return d
}

// places: how many decimal places d has behind the point.
func places(d api.Dyadic) int { return max(-d.Exp, 0) }

// units: how many units of 10^-places d has, for as many places as d has or more.
func units(d api.Dyadic, places int) api.Int {
	scaled, _ := dyadic.Mul(d, ten(places))
	x, _ := num.Shl(scaled.Man, scaled.Exp)
	return x
}

func text(x api.Int) string {
	s, _ := natdiv.Text(x.Mag)
	return s
}

// rounded: the numeral of n digits nearest to d; of nought n noughts, with the point behind the first one.
func rounded(d api.Dyadic, n int) numeral {
	if num.Sign(d.Man) == 0 {
		return numeral{strings.Repeat("0", n), 1 - n}
	}
	x := units(d, places(d))
	digits := text(x)
	spare := len(digits) - n
	if spare <= 0 {
		return numeral{digits + strings.Repeat("0", -spare), spare - places(d)}
	}
	near, _ := num.NearDiv(x, units(ten(spare), 0))
	digits = text(near)
	// Where the rounding carried into one digit more, that digit is a nought at the end.
	spare += len(digits) - n
	return numeral{digits[:n], spare - places(d)}
}

// cell is what rounds to a pattern above nought: the whole numbers from least to most, in units of 10^-places; the pattern's own number is middle.
type cell struct {
	least, middle, most api.Int
	places              int
}

func cellOf(f api.Format, b uint64) cell {
	value, _ := binary.Value(f, b)
	around, closed, _ := round.Cell(f, b)
	n := max(places(around.Lo), places(value), places(around.Hi))
	c := cell{units(around.Lo, n), units(value, n), units(around.Hi, n), n}
	if !closed {
		c.least, _ = num.Add(c.least, num.Of(1))
		c.most, _ = num.Sub(c.most, num.Of(1))
	}
	return c
}

// shortest: the shortest decimal of a pattern above nought.
//
// Its digits are the fewest where its power of ten is the greatest that has a multiple in the cell: a number with fewer digits at a lesser power would be less than a tenth of it, and no cell is as wide. As many digits at a lesser power has a number only where both have one digit and a power of ten lies between them: of such width are the cells of the few least subnormal numbers alone, and there the multiple of the greatest power is the nearest too.
func shortest(f api.Format, b uint64) numeral {
	c := cellOf(f, b)
	width, _ := num.Sub(c.most, c.least)
	exp := len(text(width)) - 1 // no multiple can be missed by a cell that is as wide as the power itself
	for c.hasMultiple(exp + 1) {
		exp++
	}
	return numeral{text(c.nearest(exp)), exp - c.places}
}

// hasMultiple: does a multiple of 10^exp units lie in the cell?
func (c cell) hasMultiple(exp int) bool {
	from, to := c.multiples(exp)
	order, _ := num.Cmp(from, to)
	return order <= 0
}

// multiples: the x of the least multiple x * 10^exp that is not below the cell, and that of the greatest that is not above it.
func (c cell) multiples(exp int) (from, to api.Int) {
	step := units(ten(exp), 0)
	from, _ = num.CeilDiv(c.least, step)
	to, _ = num.FloorDiv(c.most, step)
	return from, to
}

// nearest: the x of the multiple x * 10^exp nearest to the middle, of those in the cell, in which there is one. The nearest of all may lie below the cell, which of a power of two reaches less far down than up; above it it never lies.
func (c cell) nearest(exp int) api.Int {
	x, _ := num.NearDiv(c.middle, units(ten(exp), 0))
	from, _ := c.multiples(exp)
	if order, _ := num.Cmp(x, from); order < 0 {
		return from
	}
	return x
}
