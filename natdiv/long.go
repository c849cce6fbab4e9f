package natdiv

import (
	"math/bits"

	"gnomon/limb"
)

// divide: quotient and remainder, for b of at least two limbs and a of at least as many as b.
func divide(a, b []uint64) (quotient, rest []uint64) {
	// With the top bit of b set a trial digit is hardly ever too great. Both are moved alike: the quotient stays the same, the rest is moved back.
	shift := bits.LeadingZeros64(b[len(b)-1])
	divisor := moved(b, len(b), shift)
	rest = moved(a, len(a)+1, shift)
	quotient = make([]uint64, len(a)-len(b)+1)
	takeDigits(quotient, rest, divisor)
	rest, _ = limb.Cut(rest, len(b))
	limb.ShiftDown(rest, shift)
	return limb.Trim(quotient), limb.Trim(rest)
}

// moved: a times 2^shift in new memory of n limbs, which it fits in.
func moved(a []uint64, n, shift int) []uint64 {
	z := make([]uint64, n)
	copy(z, a)
	limb.ShiftUp(z, shift)
	return z
}

// takeDigits takes from rest, digit by digit, the multiples of divisor that the quotient counts. divisor has its top bit set, quotient is as long as rest is longer than divisor.
func takeDigits(quotient, rest, divisor []uint64) {
	n := len(divisor)
digits:
	for i := range len(quotient) {
		at := len(quotient) - 1 - i
		window := rest[at : at+n+1 : at+n+1]
		digit := trial(window, divisor)
		below := takeMultiple(window, divisor, digit)
		for {
			if !below {
				quotient[at] = digit
				continue digits
			}
			// One multiple too many: it is given back, till the carry out of the window makes up for what was borrowed.
			digit--
			below = limb.Add(window, divisor) == 0
		}
	}
}

// takeMultiple takes digit*divisor from the window, which is one limb longer than divisor. Did that lead below nought?
func takeMultiple(window, divisor []uint64, digit uint64) bool {
	low, high := limb.Cut(window, len(divisor))
	borrow := limb.SubMul(low, divisor, digit)
	var below uint64
	high[0], below = bits.Sub64(high[0], borrow, 0)
	return below != 0
}

// trial: the digit that the window's upper three limbs and the divisor's upper two tell: the right one or one more.
func trial(window, divisor []uint64) uint64 {
	n := len(divisor)
	first, second := divisor[n-1], divisor[n-2]
	// The window is below divisor * 2^64, so its top is at most first.
	digit, left, over := uint64(1<<64-1), window[n-1], uint64(0)
	if window[n] < first {
		digit, left = bits.Div64(window[n], window[n-1], first)
	} else {
		left, over = bits.Add64(left, first, 0)
	}
	for over == 0 && tooGreat(digit, second, left, window[n-2]) {
		digit--
		left, over = bits.Add64(left, first, 0)
	}
	return digit
}

// tooGreat: is digit*second above the two limbs high and low?
func tooGreat(digit, second, high, low uint64) bool {
	upper, lower := bits.Mul64(digit, second)
	return upper > high || upper == high && lower > low
}
