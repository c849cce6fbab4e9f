package natmul

import "gnomon/limb"

// From this many limbs on three products of halves take less time than the plain rows. (It must be 4 or more, so that a half and a limb more are shorter than the whole.)
const karatsubaFrom = 48

// multiply: a*b in new memory, of any length, without noughts at its end.
func multiply(a, b []uint64) []uint64 {
	if len(a) < len(b) {
		a, b = b, a
	}
	z := make([]uint64, len(a)+len(b))
	if len(b) < karatsubaFrom {
		rows(z, a, b)
	} else {
		blocks(z, a, b)
	}
	return limb.Trim(z)
}

// rows puts a*b into z, of len(a) + len(b) limbs, whatever z held.
func rows(z, a, b []uint64) {
	clear(z)
	for i := range len(b) {
		z[i+len(a)] = limb.AddMul(z[i:], a, b[i])
	}
}

// blocks adds a*b to z, of len(a) + len(b) limbs that are all 0. a goes in pieces as long as b, so that each can be halved along with b.
func blocks(z, a, b []uint64) {
	n := len(b)
	part := make([]uint64, 2*n)
	scratch := make([]uint64, scratchLimbs(n))
	count := len(a) / n
	for i := range count {
		block := a[i*n : (i+1)*n : (i+1)*n]
		karatsuba(part, block, b, scratch)
		limb.Add(z[i*n:], part)
	}
	if rest := a[count*n:]; len(rest) > 0 {
		limb.Add(z[count*n:], multiply(rest, b))
	}
}

// karatsuba puts a*b into z, whatever z and scratch held. a and b have the same length n, z has 2n limbs, scratch has at least scratchLimbs(n).
func karatsuba(z, a, b, scratch []uint64) {
	if len(a) < karatsubaFrom {
		rows(z, a, b)
		return
	}
	k := (len(a) + 1) / 2
	a0, a1 := limb.Cut(a, k)
	b0, b1 := limb.Cut(b, k)
	low, high := limb.Cut(z, 2*k)
	karatsuba(low, a0, b0, scratch)
	karatsuba(high, a1, b1, scratch)
	sumA, scratch := limb.Cut(scratch, k+1)
	sumB, scratch := limb.Cut(scratch, k+1)
	middle, scratch := limb.Cut(scratch, 2*(k+1))
	addHalves(sumA, a0, a1)
	addHalves(sumB, b0, b1)
	karatsuba(middle, sumA, sumB, scratch)
	limb.Sub(middle, low)
	limb.Sub(middle, high)
	limb.Add(z[k:], limb.Trim(middle))
}

// addHalves puts low + high into sum, which is one limb longer than low; high is no longer than low.
func addHalves(sum, low, high []uint64) {
	clear(sum)
	copy(sum, low)
	limb.Add(sum, high)
}

// scratchLimbs: what karatsuba needs at length n and, beneath that, at the length of its longest product.
func scratchLimbs(n int) int {
	total := 0
	for n >= karatsubaFrom {
		n = (n+1)/2 + 1
		total += 4 * n
	}
	return total
}
