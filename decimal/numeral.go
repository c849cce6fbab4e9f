package decimal

import (
	"strconv"
	"strings"

	"gnomon/api"
	"gnomon/dyadic"
	"gnomon/natdiv"
	"gnomon/reading"
	"gnomon/round"
)

// numeral is the number digits * 10^exp. Nought has no digits, or noughts alone.
type numeral struct {
	digits string
	exp    int
}

// read: reads a number behind its sign; its numeral has no nought in front.
func read(t *reading.Text) numeral {
	digits, behind := t.Digits("0123456789")
	exp := -behind
	if t.Takes("e", "E") {
		exp += t.Exponent()
	}
	t.End()
	return numeral{digits, exp}
}

// nearest: the pattern that the numeral rounds to. No call fails: what is left of the far ones has some thousands of digits at most.
func (n numeral) nearest(f api.Format) uint64 {
	if n.digits == "" {
		return 0
	}
	n = n.within()
	natural, _ := natdiv.Read(n.digits)
	whole, _ := dyadic.Make(api.Int{Mag: natural}, 0)
	above, _ := dyadic.Mul(whole, ten(max(n.exp, 0)))
	b, _ := round.Quotient(f, above, ten(max(-n.exp, 0)))
	return b
}

// within: the numeral, or a power of ten that stands for it where its first digit is far away from the point: both formats end nearer to it, so the two round alike.
func (n numeral) within() numeral {
	const far = 400
	if n.first() > far {
		return numeral{"1", far}
	}
	if n.first() < -far {
		return numeral{"1", -far}
	}
	return n
}

// first: the power of ten for which the first digit counts.
func (n numeral) first() int { return len(n.digits) + n.exp - 1 }

// plain: the numeral laid out with the point at its place, if that is near to the digits, else with an exponent.
func (n numeral) plain() string {
	point := len(n.digits) + n.exp
	switch {
	case point > 17 || point < -3:
		return n.scientific()
	case point <= 0:
		return "0." + strings.Repeat("0", -point) + n.digits
	case point < len(n.digits):
		return n.digits[:point] + "." + n.digits[point:]
	}
	return n.digits + strings.Repeat("0", n.exp)
}

// scientific: the numeral with the point behind its first digit and an exponent.
func (n numeral) scientific() string {
	text := n.digits[:1]
	if others := n.digits[1:]; others != "" {
		text += "." + others
	}
	return text + "e" + strconv.Itoa(n.first())
}
