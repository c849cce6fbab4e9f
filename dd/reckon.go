package dd

import (
	"gnomon/api"
	"gnomon/eft"
)

// The errors below are counted in u^2, u = 2^-53; 2^-103 is eight of them, 2^-102 sixteen, 2^-100 sixty-four. What falls below the least float on the way is far less than one, as fit numbers are at least 2^-300.

// Add: a + b, off by at most a little above three u^2.
func Add(a, b api.DD) api.DD {
	high, highLeft := eft.TwoSum(a.Hi, b.Hi)
	low, lowLeft := eft.TwoSum(a.Lo, b.Lo)
	// Where the His all but cancel, the sum of the Los may be greater than theirs, of which FastTwoSum promises nothing.
	s, left := eft.TwoSum(high, highLeft+low)
	return pair(eft.FastTwoSum(s, left+lowLeft))
}

// Sub: a - b, as the sum.
func Sub(a, b api.DD) api.DD { return Add(a, Neg(b)) }

// Mul: a * b, off by less than seven u^2. The product of the Los, at most one of them, is left out.
func Mul(a, b api.DD) api.DD {
	p, left := eft.TwoProd(a.Hi, b.Hi)
	cross := float64(a.Hi*b.Lo) + float64(a.Lo*b.Hi)
	return pair(eft.FastTwoSum(p, left+cross))
}

// MulFloat: a * x, off by at most three u^2.
func MulFloat(a api.DD, x float64) api.DD {
	p, left := eft.TwoProd(a.Hi, x)
	return pair(eft.FastTwoSum(p, left+float64(a.Lo*x)))
}

// Sqr: a * a, as the product.
func Sqr(a api.DD) api.DD { return Mul(a, a) }

// Div: a / b, off by less than twenty u^2.
func Div(a, b api.DD) api.DD {
	q := a.Hi / b.Hi
	back := MulFloat(b, q)
	// The two His are so near to each other that their difference is not rounded; it is some u of a, so that one more quotient of floats is enough.
	rest := (a.Hi - back.Hi) + (a.Lo - back.Lo)
	return pair(eft.FastTwoSum(q, rest/b.Hi))
}
