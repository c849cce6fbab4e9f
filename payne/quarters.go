package payne

import (
	"math"
	"math/bits"

	"gnomon/api"
	"gnomon/dd"
)

// quarters is a number of quarter turns, whole turns left out: from 0 on and below 4, counted in units of 2^-254, the word with the greatest value first. So the upper two bits are its whole part.
type quarters [4]uint64

// ofPower: the quarter turns of 2^exp radians, rounded down, for an exp from -53 to 971: those of the numbers of 53 bits above 1/2.
func ofPower(exp int) quarters {
	// The bits of 2/pi ahead of this window stand for whole turns. Where there are none of these, the window is too great by 2^(2-exp).
	window, _ := Window(max(exp-2, 0))
	return quarters(window).halved(max(2-exp, 0))
}

// halved: q halved n times, rounded down, n below 64.
func (q quarters) halved(n int) quarters {
	for i := 3; i > 0; i-- {
		q[i] = q[i]>>n | q[i-1]<<(64-n)
	}
	q[0] >>= n
	return q
}

// doubled: q doubled n times, what goes beyond the upper word left out, n at most 64.
func (q quarters) doubled(n int) quarters {
	for i := range 3 {
		q[i] = q[i]<<n | q[i+1]>>(64-n)
	}
	q[3] <<= n
	return q
}

// times: q taken m times, whole turns left out.
func (q quarters) times(m uint64) quarters {
	above := uint64(0)
	for i := 3; i >= 0; i-- {
		high, low := bits.Mul64(q[i], m)
		sum, carry := bits.Add64(low, above, 0)
		q[i], above = sum, high+carry
	}
	return q
}

// opposite: what makes a whole turn of q.
func (q quarters) opposite() quarters {
	borrow := uint64(0)
	for i := 3; i >= 0; i-- {
		q[i], borrow = bits.Sub64(0, q[i], borrow)
	}
	return q
}

// nearest: the quadrant of the quarter that is nearest to q, and how far q lies behind it, from -1/2 to 1/2.
func (q quarters) nearest() (int, api.DD) {
	halves := q[0] >> 61
	k := int(halves+1) >> 1 & 3
	part := q.doubled(2) // the bits behind the point alone
	if halves&1 != 0 {
		return k, dd.Neg(part.opposite().fraction())
	}
	return k, part.fraction()
}

// fraction: q as a number of units of 2^-256, cut to 106 bits. The upper word is not 0 (layer 13).
func (q quarters) fraction() api.DD {
	skip := bits.LeadingZeros64(q[0])
	q = q.doubled(skip)
	high := q[0] >> 11
	low := (q[0]<<53 | q[1]>>11) >> 11
	return dd.Sum(math.Ldexp(float64(high), -53-skip), math.Ldexp(float64(low), -106-skip))
}
