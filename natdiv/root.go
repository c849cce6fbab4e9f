package natdiv

import (
	"math/bits"

	"gnomon/nat"
	"gnomon/natmul"
)

// rootOf: the floor of the square root and the rest, of a natural in form. The root of the upper half of a's bits gives the upper half of the root, one division the lower half. No step on the way is longer than a by more than a few bits of its half, so none can meet the limit.
func rootOf(a []uint64) (root, rest []uint64) {
	if len(a) < 2 {
		return wordRoot(a)
	}
	k := nat.Bits(a) / 4
	upper, _ := nat.Shr(a, 2*k)
	half, left := rootOf(upper)
	lower, _ := nat.Low(a, 2*k)
	next, _ := nat.Shr(lower, k)
	last, _ := nat.Low(lower, k)
	twice, _ := nat.Shl(half, 1)
	digit, over, _ := QuoRem(join(left, next, k), twice)
	// a is now (half*2^k + digit)^2 + over*2^k + last - digit^2.
	return settle(join(half, digit, k), join(over, last, k), digit)
}

// settle: root and rest, where the rest is what is left less digit^2. Where that lies below nought, root is one too great: by the choice of k half has at least k bits, so digit^2 is at most left + 2*root - 1.
func settle(root, left, digit []uint64) ([]uint64, []uint64) {
	square, _ := natmul.Sqr(digit)
	if nat.Cmp(left, square) < 0 {
		twice, _ := nat.Shl(root, 1)
		root, _ = nat.Sub(root, nat.Word(1))
		left, _ = nat.Add(left, twice)
		left, _ = nat.Sub(left, nat.Word(1))
	}
	rest, _ := nat.Sub(left, square)
	return root, rest
}

// join: high * 2^k + low.
func join(high, low []uint64, k int) []uint64 {
	raised, _ := nat.Shl(high, k)
	sum, _ := nat.Add(raised, low)
	return sum
}

// wordRoot: the root and the rest of a natural of one limb or none, by Newton's steps from above.
func wordRoot(a []uint64) (root, rest []uint64) {
	if len(a) == 0 {
		return nil, nil
	}
	w := a[0]
	s := uint64(1) << ((bits.Len64(w) + 1) / 2)
	for next := (s + w/s) / 2; next < s; next = (s + w/s) / 2 {
		s = next
	}
	return nat.Word(s), nat.Word(w - s*s)
}
