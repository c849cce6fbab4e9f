package eft_test

import (
	"math/big"
	"testing"

	"gnomon/eft"
	"gnomon/oracle"
)

var twoProd = call{"TwoProd", eft.TwoProd, oracle.Product}

func TestP19_4_Examples(t *testing.T) {
	twoProd.is(t, 1+0x1p-30, 1+0x1p-30, 1+0x1p-29, 0x1p-60)
	twoProd.is(t, 3, 5, 15, 0)
	twoProd.is(t, 0, 7, 0, 0)
}

// The least and the greatest of what is allowed, where the error is least and greatest too.
func TestP19_4_Edges(t *testing.T) {
	const long = 0x1.0000000000001p0 // its square is 1 + 2^-51 + 2^-104
	for _, c := range [][4]float64{
		{0x1p-480, 0x1p-480, 0x1p-960, 0}, {0x1p-480 * long, 0x1p-480 * long, 0x1p-960 + 0x1p-1011, 0x1p-1064}, {0x1p-1074, 0x1p114, 0x1p-960, 0}, {0x1p995, 0x1p-1074, 0x1p-79, 0},
		{0x1p995, 0x1p26, 0x1p1021, 0}, {0x1p511, 0x1p510, 0x1p1021, 0}, {0x1p510 * long, 0x1p510 * long, 0x1p1020 + 0x1p969, 0x1p916}, {0x1p995, 0x1p995 * 0x1p-995, 0x1p995, 0},
		{long, 0x1.fffffffffffffp-1, 1, 0x1p-53 - 0x1p-105}, {0x1p27 + 1, 0x1p27 - 1, 0x1p54, -1}, {0x1p27 + 1, 0x1p27 + 3, 0x1p54 + 0x1p29 + 4, -1}, {0, 0x1p995, 0, 0}, {0, 0x1p-1074, 0, 0}, {0, 0, 0, 0},
	} {
		for _, s := range []pair{{1, 1}, {1, -1}, {-1, 1}, {-1, -1}} {
			twoProd.is(t, s.a*c[0], s.b*c[1], s.a*s.b*c[2], s.a*s.b*c[3])
			twoProd.is(t, s.b*c[1], s.a*c[0], s.a*s.b*c[2], s.a*s.b*c[3])
		}
	}
}

func TestP19_4_TwoProd(t *testing.T) {
	for _, p := range products() {
		for _, q := range p.asked() {
			twoProd.whole(t, q)
		}
	}
}

// The pairs are of use only where many of their products are half way, many exact and many neither.
func TestP19_4_Kinds(t *testing.T) {
	exact, half, other := 0, 0, 0
	for _, p := range products() {
		switch n := bits(oracle.Product(oracle.Exact(p.a), oracle.Exact(p.b))); {
		case n < 54:
			exact++
		case n == 54:
			half++
		default:
			other++
		}
	}
	if exact < 500 || half < 100 || other < 2000 {
		t.Errorf("%d products are exact, %d half way, %d neither", exact, half, other)
	}
}

// bits: of how many bits a number is.
func bits(x *big.Float) uint { return x.MinPrec() }

func TestP19_5_Products(t *testing.T) {
	for _, p := range products() {
		for _, q := range p.asked() {
			twoProd.small(t, q)
		}
	}
}
