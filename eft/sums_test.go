package eft_test

import (
	"math"
	"testing"

	"gnomon/eft"
	"gnomon/oracle"
)

var (
	twoSum     = call{"TwoSum", eft.TwoSum, oracle.Plus}
	fastTwoSum = call{"FastTwoSum", eft.FastTwoSum, oracle.Plus}
)

// ordered: may FastTwoSum be asked for it?
func (p pair) ordered() bool { return p.a == 0 || math.Abs(p.a) >= math.Abs(p.b) }

func TestP19_1_Examples(t *testing.T) {
	twoSum.is(t, 1, 0x1p-60, 1, 0x1p-60)
	twoSum.is(t, 0x1p-60, 1, 1, 0x1p-60)
	twoSum.is(t, 0x1p53, 1, 0x1p53, 1)
	twoSum.is(t, 1, -1, 0, 0)
	twoSum.is(t, 0.1, 0.2, 0x1.3333333333334p-2, -0x1p-55)
}

// Half way between two numbers the even one is taken; a power of two has its lower neighbour nearer than its upper one.
func TestP19_1_HalfWay(t *testing.T) {
	for _, c := range [][4]float64{
		{1, 0x1p-53, 1, 0x1p-53}, {1, 0x1.0000000000001p-53, 0x1.0000000000001p0, -0x1.ffffffffffffep-54}, {1, 0x1.fffffffffffffp-54, 1, 0x1.fffffffffffffp-54},
		{0x1.0000000000001p0, 0x1p-53, 0x1.0000000000002p0, -0x1p-53}, {0x1.0000000000001p0, -0x1p-53, 1, 0x1p-53}, {0x1.0000000000002p0, 0x1p-53, 0x1.0000000000002p0, 0x1p-53},
		{1, -0x1p-54, 1, -0x1p-54}, {1, -0x1.0000000000001p-54, 0x1.fffffffffffffp-1, 0x1.ffffffffffffep-55}, {0x1.fffffffffffffp0, 0x1p-53, 2, -0x1p-53},
		{0x1p1022, 0x1p969, 0x1p1022, 0x1p969}, {0x1p53, 3, 0x1p53 + 4, -1}, {0x1p53 + 2, 3, 0x1p53 + 4, 1},
	} {
		for _, s := range []float64{1, -1} {
			twoSum.is(t, s*c[0], s*c[1], s*c[2], s*c[3])
			twoSum.is(t, s*c[1], s*c[0], s*c[2], s*c[3])
			fastTwoSum.is(t, s*c[0], s*c[1], s*c[2], s*c[3])
		}
	}
}

func TestP19_1_TwoSum(t *testing.T) {
	for _, p := range sums() {
		for _, q := range p.asked() {
			twoSum.whole(t, q)
		}
	}
}

func TestP19_2_Examples(t *testing.T) {
	fastTwoSum.is(t, 1, 0x1p-60, 1, 0x1p-60)
	fastTwoSum.is(t, 0, 5, 5, 0)
	fastTwoSum.is(t, -1, 1, 0, 0)
}

// A nought ahead of a number, both of the same size, and numbers that cancel.
func TestP19_2_Edges(t *testing.T) {
	for _, x := range []float64{0, 1, 0x1.fffffffffffffp0, 0x1p1022, 0x1.fffffffffffffp1021, 0x1p-1022, 0x1.fffffffffffffp-1022, math.SmallestNonzeroFloat64} {
		for _, x := range []float64{x, -x} {
			fastTwoSum.is(t, 0, x, x, 0)
			fastTwoSum.is(t, math.Copysign(0, -1), x, x, 0)
			fastTwoSum.is(t, x, 0, x, 0)
			fastTwoSum.is(t, x, x, 2*x, 0)
			fastTwoSum.is(t, x, -x, 0, 0)
		}
	}
}

func TestP19_2_FastTwoSum(t *testing.T) {
	for _, p := range sums() {
		for _, q := range p.asked() {
			if q.ordered() {
				fastTwoSum.whole(t, q)
			}
		}
	}
}

func TestP19_5_Sums(t *testing.T) {
	for _, p := range sums() {
		for _, q := range p.asked() {
			twoSum.small(t, q)
			if q.ordered() {
				fastTwoSum.small(t, q)
			}
		}
	}
}
