package soft_test

import (
	"math/big"
	"testing"

	"gnomon/api"
	"gnomon/oracle"
)

// exact: what an operation makes of finite numbers, by the library's fractions.
func exact(o op, x []*big.Rat) *big.Rat {
	out := new(big.Rat)
	switch o.name {
	case "Add":
		return out.Add(x[0], x[1])
	case "Sub":
		return out.Sub(x[0], x[1])
	case "Mul":
		return out.Mul(x[0], x[1])
	case "Div":
		return out.Quo(x[0], x[1])
	}
	out.Mul(x[0], x[1])
	return out.Add(out, x[2])
}

// rounds: is the answer what the exact result goes to? Of results other than nought.
func (o op) rounds(t *testing.T, f api.Format, in ...uint64) {
	t.Helper()
	var x []*big.Rat
	for _, b := range in {
		x = append(x, oracle.ValueOf(f, b))
	}
	if want := exact(o, x); want.Sign() != 0 {
		o.is(t, f, oracle.Rounded(f, want), in...)
	}
}

// some: every so manieth finite number that is not nought.
func some(f api.Format, step int) []uint64 {
	var out []uint64
	for i, b := range oracle.Finite(f)[2:] {
		if i%step == 0 {
			out = append(out, b)
		}
	}
	return out
}

func finiteEdges(f api.Format) []uint64 {
	all := edges(f)
	return all[2 : len(all)-2]
}

func TestP9_2_ByFractions(t *testing.T) {
	for _, f := range oracle.Formats() {
		list := append(finiteEdges(f), some(f, 5)...)
		for _, a := range list {
			for _, b := range list {
				add.rounds(t, f, a, b)
				sub.rounds(t, f, a, b)
				mul.rounds(t, f, a, b)
				div.rounds(t, f, a, b)
			}
		}
	}
}

func TestP9_2_FusedByFractions(t *testing.T) {
	for _, f := range oracle.Formats() {
		list := append(finiteEdges(f), some(f, 37)...)
		for _, a := range list {
			for _, b := range list {
				for _, c := range list {
					fma.rounds(t, f, a, b, c)
				}
			}
		}
	}
}

// halfUnit: half the way from the pattern b, above nought, to the next one; 0 where the format has no such number.
func halfUnit(f api.Format, b uint64) uint64 {
	half := oracle.Half(f, b)
	half.Sub(half, oracle.ValueOf(f, b))
	return oracle.Rounded(f, half)
}

// Half a unit more and half a unit less is a tie; what is a hair more than that, and less, is none.
func TestP9_2_SumsAboutTies(t *testing.T) {
	for _, f := range oracle.Formats() {
		one := oracle.Bits(f, 1)
		for i, b := range oracle.Finite(f) {
			half := uint64(0)
			if i%2 == 0 {
				half = halfUnit(f, b)
			}
			if half == 0 {
				continue
			}
			tie, next := b+b&1, b+1
			for _, c := range []struct{ more, want uint64 }{{half, tie}, {half + 1, next}, {half - 1, b}} {
				both(t, add, f, c.want, b, c.more)
				both(t, add, f, c.want, c.more, b)
				sub.is(t, f, c.want, b, oracle.Minus(f, c.more))
				fma.is(t, f, c.want, b, one, c.more)
				fma.is(t, f, c.want, c.more, one, b)
			}
			if next != oracle.Infinity(f) {
				sub.is(t, f, tie, next, half)
				sub.is(t, f, b, next, half+1)
				sub.is(t, f, next, next, half-1)
			}
		}
	}
}

// both: the answer, and the answer of the other sign where all signs are turned.
func both(t *testing.T, o op, f api.Format, want, a, b uint64) {
	t.Helper()
	o.is(t, f, want, a, b)
	o.is(t, f, oracle.Minus(f, want), oracle.Minus(f, a), oracle.Minus(f, b))
}

// A midpoint that is three times a number of the format: as a product it is a tie, and the least number added to it, or taken from it, is a hair beside. Rounding twice, or in a wider format first, would lose that hair.
func TestP9_7_FusedAboutTies(t *testing.T) {
	for _, f := range oracle.Formats() {
		tried := 0
		for i, first := range oracle.Finite(f) {
			if i%2 == 1 {
				continue
			}
			for b := first; b < first+3 && b < oracle.Infinity(f); b++ {
				third, three, ok := thirds(f, oracle.Half(f, b))
				if !ok {
					continue
				}
				tried++
				fma.is(t, f, b+b&1, third, three, 0)
				mul.is(t, f, b+b&1, third, three)
				fma.rounds(t, f, third, three, 1)
				fma.rounds(t, f, third, three, oracle.Minus(f, 1))
				if b > 4*leastNormal(f) {
					fma.is(t, f, b+1, third, three, 1)
					fma.is(t, f, b, third, three, oracle.Minus(f, 1))
					fma.is(t, f, oracle.Minus(f, b), oracle.Minus(f, third), three, 1)
				}
			}
		}
		if tried < 50 {
			t.Errorf("format %d: only %d midpoints are products", f, tried)
		}
	}
}

// thirds: two patterns of the format whose product is x, if x has the factor 3.
func thirds(f api.Format, x *big.Rat) (third, three uint64, ok bool) {
	scale := big.NewRat(1, 1)
	if x.Cmp(scale) < 0 {
		scale.SetInt64(1 << 60)
	}
	y := new(big.Rat).Mul(x, scale)
	y.Mul(y, big.NewRat(1, 3))
	z := new(big.Rat).Quo(big.NewRat(3, 1), scale)
	third, three = oracle.Rounded(f, y), oracle.Rounded(f, z)
	return third, three, y.Cmp(oracle.ValueOf(f, third)) == 0
}

// About half the least number above nought.
func TestP9_2_AtNought(t *testing.T) {
	for _, f := range oracle.Formats() {
		half, two, minus := oracle.Bits(f, 0.5), oracle.Bits(f, 2), oracle.Minus(f, 0)
		for _, sign := range []uint64{0, minus} {
			least := 1 | sign
			mul.is(t, f, sign, least, half)
			mul.is(t, f, sign, half, least)
			mul.is(t, f, sign, least, half-1)
			mul.is(t, f, least, least, half+1)
			mul.is(t, f, minus^sign, least, half|minus)
			div.is(t, f, sign, least, two)
			div.is(t, f, least, least, two-1)
			div.is(t, f, sign, least, two+1)
			div.is(t, f, sign, least, oracle.Infinity(f)-1)
			fma.is(t, f, sign, least, half, 0)
			fma.is(t, f, sign, least, half, minus)
			fma.is(t, f, least, least, half+1, minus)
			fma.is(t, f, minus^sign, least, half, minus^least)
			fma.is(t, f, minus^least, least, oracle.Bits(f, 0.25), minus^least)
			fma.is(t, f, sign|2, least, half, least)
			mul.is(t, f, sign, least, least^sign)
			add.is(t, f, sign|2, least, least)
			add.is(t, f, sign|leastNormal(f), sign|(leastNormal(f)-1), least)
			sub.is(t, f, sign|(leastNormal(f)-1), sign|leastNormal(f), least)
		}
	}
}

// About half a unit beyond the greatest number.
func TestP9_2_AtTheTop(t *testing.T) {
	for _, f := range oracle.Formats() {
		one, end, minus := oracle.Bits(f, 1), oracle.Infinity(f), oracle.Minus(f, 0)
		half := halfUnit(f, end-1)
		for _, sign := range []uint64{0, minus} {
			most, beyond := (end-1)|sign, end|sign
			add.is(t, f, beyond, most, half|sign)
			add.is(t, f, most, most, (half-1)|sign)
			add.is(t, f, most, most, 1|sign)
			add.is(t, f, beyond, most, most)
			sub.is(t, f, beyond, most, half|(minus^sign))
			fma.is(t, f, beyond, most, one, half|sign)
			fma.is(t, f, most, most, one, (half-1)|sign)
			mul.is(t, f, beyond, most, one+1)
			mul.is(t, f, most-1, most, one-1)
			mul.is(t, f, minus^beyond, most, minus|(one+1))
			div.is(t, f, beyond, most, one-1)
			div.is(t, f, most-2, most, one+1)
			div.is(t, f, beyond, one|sign, 1)
			div.is(t, f, beyond, most, 1)
		}
	}
}

// Numbers whose exponents lie far apart: the lesser one is not seen, but where it breaks a tie.
func TestP9_2_FarApart(t *testing.T) {
	for _, f := range oracle.Formats() {
		for _, b := range oracle.Finite(f)[2:] {
			if size := b &^ oracle.Minus(f, 0); size < 4*leastNormal(f) {
				continue
			}
			for _, c := range []uint64{1, 2, leastNormal(f)} {
				for _, little := range []uint64{c, oracle.Minus(f, c)} {
					add.rounds(t, f, b, little)
					add.rounds(t, f, little, b)
					sub.rounds(t, f, b, little)
					sub.rounds(t, f, little, b)
				}
			}
			if b > 80*leastNormal(f) {
				add.is(t, f, b, b, 1)
				sub.is(t, f, b, b, 1)
			}
		}
	}
}

// Sums of neighbours that cancel are exact: what is left is one unit.
func TestP9_2_Cancelling(t *testing.T) {
	for _, f := range oracle.Formats() {
		for _, b := range oracle.Finite(f) {
			size := b &^ oracle.Minus(f, 0)
			if size+2 >= oracle.Infinity(f) {
				continue
			}
			for _, other := range []uint64{size + 1, size + 2} {
				sub.rounds(t, f, other, size)
				sub.rounds(t, f, size, other)
				add.rounds(t, f, other, oracle.Minus(f, size))
				add.rounds(t, f, oracle.Minus(f, other), size)
			}
			if size < leastNormal(f) {
				sub.is(t, f, 1, size+1, size)
				sub.is(t, f, oracle.Minus(f, 1), size, size+1)
			}
		}
	}
}

// The square of 1 and a unit, less what that rounds to: what the rounding alone would lose.
func TestP9_7_WhatRoundingLoses(t *testing.T) {
	fma.is(t, double, 0x3970000000000000, 0x3ff0000000000001, 0x3ff0000000000001, 0xbff0000000000002)
	fma.is(t, single, 0x28800000, 0x3f800001, 0x3f800001, 0xbf800002)
	for _, f := range oracle.Formats() {
		for _, a := range some(f, 3) {
			for _, b := range []uint64{a, oracle.Bits(f, 3), oracle.Bits(f, 1) + 1, oracle.Bits(f, 1) - 1} {
				p, _ := mul.call(f, []uint64{a, b})
				if p&oracle.Infinity(f) != oracle.Infinity(f) {
					fma.rounds(t, f, a, b, oracle.Minus(f, p))
				}
			}
		}
	}
}

// Whole numbers' squares, and the patterns beside them.
func TestP9_6_Squares(t *testing.T) {
	for _, f := range oracle.Formats() {
		for _, k := range []uint64{1, 2, 3, 5, 10, 255, 1000, 2047, 4095} {
			square := oracle.Bits(f, float64(k*k))
			want := oracle.Bits(f, float64(k))
			root.is(t, f, want, square)
			rootHolds(t, f, square+1)
			rootHolds(t, f, square-1)
		}
	}
	root.is(t, double, 0x3fefffffffffffff, 0x3fefffffffffffff)
	root.is(t, double, 0x3ff0000000000000, 0x3ff0000000000001)
	root.is(t, double, 0x3ff0000000000001, 0x3ff0000000000002)
	root.is(t, double, 0x1e60000000000000, 1)
	root.is(t, double, 0x5fefffffffffffff, 0x7fefffffffffffff)
	root.is(t, single, 0x3f7fffff, 0x3f7fffff)
	root.is(t, single, 0x3f800000, 0x3f800001)
	root.is(t, single, 0x3f800001, 0x3f800002)
	root.is(t, single, 0x1a3504f3, 1)
	root.is(t, single, 0x5f7fffff, 0x7f7fffff)
	root.is(t, single, 0x3fb504f3, 0x40000000)
}

// rootHolds: the square of the answer's cell holds the number. (No root of a pattern is a midpoint: that has a bit too many.)
func rootHolds(t *testing.T, f api.Format, b uint64) {
	t.Helper()
	got, e := root.call(f, []uint64{b})
	if e != api.OK || got == 0 || got >= oracle.Infinity(f) {
		t.Errorf("Sqrt(%d, %x) = %x, error %d", f, b, got, e)
		return
	}
	lo, hi := oracle.Half(f, got-1), oracle.Half(f, got)
	x := oracle.ValueOf(f, b)
	if lo.Mul(lo, lo).Cmp(x) >= 0 || hi.Mul(hi, hi).Cmp(x) <= 0 {
		t.Errorf("Sqrt(%d, %x) = %x", f, b, got)
	}
}

func TestP9_6_ByCells(t *testing.T) {
	for _, f := range oracle.Formats() {
		for i, b := range oracle.Finite(f) {
			if i%2 == 0 && b > 0 {
				rootHolds(t, f, b)
			}
		}
	}
}
