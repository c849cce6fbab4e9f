package soft

import (
	"gnomon/api"
	"gnomon/dyadic"
	"gnomon/num"
	"gnomon/round"
)

// No call of dyadic fails here: of three patterns the exact sums and products have some thousands of bits at most, and exponents of some thousands.

// sum: a + b, exact.
func sum(a, b operand) operand {
	switch x := a.(type) {
	case infinite:
		switch y := b.(type) {
		case nan:
			return y
		case infinite:
			if x.neg != y.neg {
				return nan{}
			}
		}
		return x
	case nought:
		if y, ok := b.(nought); ok {
			return nought{x.neg && y.neg}
		}
		return b
	case finite:
		switch y := b.(type) {
		case finite:
			return finiteSum(x, y)
		case nought:
			return x
		}
		return b
	}
	return nan{}
}

// finiteSum: two numbers that cancel have unlike signs, so what is left is the nought above.
func finiteSum(x, y finite) operand {
	d, _ := dyadic.Add(x.number, y.number)
	if num.Sign(d.Man) == 0 {
		return nought{}
	}
	return finite{d}
}

// product: a * b, exact.
func product(a, b operand) operand {
	neg := a.below() != b.below()
	switch x := a.(type) {
	case infinite:
		switch b.(type) {
		case nan, nought:
			return nan{}
		}
		return infinite{neg}
	case nought:
		switch b.(type) {
		case nan, infinite:
			return nan{}
		}
		return nought{neg}
	case finite:
		if y, ok := b.(finite); ok {
			d, _ := dyadic.Mul(x.number, y.number)
			return finite{d}
		}
		return b.signed(neg)
	}
	return nan{}
}

// quotient: the pattern of a / b. It is rounded at once, for most quotients are no dyadics.
func quotient(f api.Format, a, b operand) uint64 {
	x, ok := a.(finite)
	y, also := b.(finite)
	if ok && also {
		answer, _ := round.Quotient(f, x.number, y.number)
		return answer
	}
	// Where one of them is a nought, infinite or a NaN, a / b and a * (1 / b) are the same.
	return product(a, inverse(b)).pattern(f)
}

// inverse: 1 / x; of a finite number other than nought x itself stands for it, being of its kind and sign.
func inverse(x operand) operand {
	switch x := x.(type) {
	case nought:
		return infinite(x)
	case infinite:
		return nought(x)
	}
	return x
}

// root: the pattern of the square root of x.
func root(f api.Format, x operand) uint64 {
	switch x := x.(type) {
	case nought:
		return x.pattern(f)
	case infinite:
		if !x.neg {
			return x.pattern(f)
		}
	case finite:
		if !x.below() {
			answer, _ := round.Root(f, x.number)
			return answer
		}
	}
	return nan{}.pattern(f)
}

// unordered: is there one among them that is neither below, equal to nor above another?
func unordered(in []operand) bool {
	for _, x := range in {
		if _, ok := x.(nan); ok {
			return true
		}
	}
	return false
}
