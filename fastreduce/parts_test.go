package fastreduce_test

import (
	"math"
	"math/big"
	"testing"

	"gnomon/fastreduce"
	"gnomon/oracle"
	"gnomon/piconst"
)

// places is how finely pi/2 is counted here: far beyond its three parts.
const places = 600

// cut: x cut down to 33 bits.
func cut(x *big.Int) *big.Int {
	n := uint(x.BitLen() - 33)
	y := new(big.Int).Rsh(x, n)
	return y.Lsh(y, n)
}

// rounded: x * 2^-places, rounded to nearest.
func rounded(x *big.Int) float64 {
	y := new(big.Float).SetPrec(places + 8).SetInt(x)
	return oracle.Nearest(y.SetMantExp(y, -places))
}

// partsOf: the three parts of a number, as the chapter says them.
func partsOf(half *big.Int) [3]float64 {
	first := cut(half)
	left := new(big.Int).Sub(half, first)
	second := cut(left)
	return [3]float64{rounded(first), rounded(second), rounded(left.Sub(left, second))}
}

func TestP22_1_Parts(t *testing.T) {
	floor, _ := piconst.FloorPi(places - 1)
	for _, half := range []*big.Int{oracle.Number(floor), oracle.Pi(places - 1)} {
		// pi/2 lies between half and half + 1: both have the same parts.
		for _, x := range []*big.Int{half, new(big.Int).Add(half, big.NewInt(1))} {
			if got, want := fastreduce.Parts(), partsOf(x); got != want {
				t.Errorf("Parts() is %x, want %x", got, want)
			}
		}
	}
}

func TestP22_1_Examples(t *testing.T) {
	parts := fastreduce.Parts()
	if parts[0] != 0x1.921fb544p+0 || parts[1] != 0x1.0b4611a6p-34 {
		t.Errorf("Parts() is %x", parts)
	}
	if sum := parts[0] + parts[1] + parts[2]; sum != math.Pi/2 {
		t.Errorf("the parts come to %v", sum)
	}
}

func TestP22_1_PartsAreCopies(t *testing.T) {
	parts := fastreduce.Parts()
	first := parts[0]
	parts[0] = 0
	if again := fastreduce.Parts(); again[0] != first {
		t.Errorf("parts that were written over are answered again")
	}
}
