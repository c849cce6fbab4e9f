// Package layout is what the layers know of a format's making: its widths, and the bounds of patterns and exponents that follow from them.
package layout

import "gnomon/api"

// Widths are what a format is made of; those of a format that is none are all 0.
type Widths struct {
	Pattern  int // bits of a pattern
	Mantissa int // bits of a mantissa, the leading one among them
	Least    int // exponent of the least number above nought
}

// Of: the widths of f; ErrArg where f is no format.
func Of(f api.Format) (Widths, api.Errno) {
	w := widths(f)
	if w == (Widths{}) {
		return w, api.ErrArg
	}
	return w, api.OK
}

func widths(f api.Format) Widths {
	switch f {
	case api.Single:
		return Widths{Pattern: 32, Mantissa: 24, Least: -149}
	case api.Double:
		return Widths{Pattern: 64, Mantissa: 53, Least: -1074}
	}
	return Widths{}
}

// Sign: the bit that says negative.
func (w Widths) Sign() uint64 { return 1 << (w.Pattern - 1) }

// Signed: the pattern of that size and sign.
func (w Widths) Signed(neg bool, size uint64) uint64 {
	if neg {
		return w.Sign() | size
	}
	return size
}

// Infinity: the size of an infinity. All bits of the exponent are set, and none of the mantissa's.
func (w Widths) Infinity() uint64 {
	return w.Sign() - 1<<w.stored()
}

// Quiet: the quiet NaN.
func (w Widths) Quiet() uint64 {
	return w.Infinity() | 1<<(w.stored()-1) | 1
}

// Beyond: the exponent of the power of two that follows the greatest number.
func (w Widths) Beyond() int {
	steps := int(w.Infinity() >> w.stored())
	return w.Least + steps - 1 + w.stored()
}

// Unit: the exponent of the last bit that a number has whose size is from 2^top on and below 2^(top+1).
func (w Widths) Unit(top int) int {
	return max(top-w.stored(), w.Least)
}

// Size: the size of the pattern with the number man * 2^unit, for a unit of Unit. The leading bit of a man that has all its bits counts as one step of the exponent: so the sum is right of subnormal numbers too.
func (w Widths) Size(man uint64, unit int) uint64 {
	return uint64(unit-w.Least)<<w.stored() + man
}

// Parts: of the size of a finite pattern the man and the unit of which Size makes it.
func (w Widths) Parts(size uint64) (man uint64, unit int) {
	steps := max(int(size>>w.stored())-1, 0)
	return size - uint64(steps)<<w.stored(), w.Least + steps
}

// stored: bits of the mantissa that stand in a pattern.
func (w Widths) stored() int { return w.Mantissa - 1 }
