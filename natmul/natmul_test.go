package natmul_test

import (
	"math"
	"math/big"
	"slices"
	"testing"

	"gnomon/api"
	"gnomon/nat"
	"gnomon/natmul"
	"gnomon/oracle"
)

const (
	m        = 1<<64 - 1
	maxLimbs = 8192
)

// limbs is short for a list of limbs.
type limbs = []uint64

var noughts, ones, number, natural, misshapen = oracle.Noughts, oracle.Ones, oracle.Number, oracle.Natural, oracle.Misshapen

// ofLength: a natural of n limbs that looks like none in particular.
func ofLength(n int) limbs {
	a, seed := make(limbs, n), uint64(n)
	for i := range a {
		seed = seed*6364136223846793005 + 1442695040888963407
		a[i] = seed ^ seed>>31 | 1
	}
	return a
}

// samples: naturals in form, short and long.
func samples() []limbs {
	out := []limbs{nil, {1}, {2}, {3}, {m}, {0, 1}, {m, m}, {1, 0, m}, {0, 0, 0, 1 << 63}}
	for _, n := range []int{5, 39, 40, 41, 47, 48, 49, 95, 96, 97, 130, 300} {
		out = append(out, ofLength(n), ones(n), noughts(n-1, 1))
	}
	return out
}

type answer struct {
	got limbs
	e   api.Errno
}

func of(got limbs, e api.Errno) answer { return answer{got, e} }

func (a answer) is(t *testing.T, call string, want limbs, e api.Errno) {
	t.Helper()
	if a.e != e || !slices.Equal(a.got, want) {
		t.Errorf("%s = %.90v (%d limbs), error %d, want %.90v (%d limbs), error %d", call, a.got, len(a.got), a.e, want, len(want), e)
	}
}

func TestP2_1_Mul(t *testing.T) {
	of(natmul.Mul(limbs{3}, limbs{5})).is(t, "Mul(3, 5)", limbs{15}, api.OK)
	of(natmul.Mul(nil, limbs{7})).is(t, "Mul(nought, 7)", nil, api.OK)
	of(natmul.Mul(nil, limbs{})).is(t, "Mul(nought, nought)", nil, api.OK)
	of(natmul.Mul(limbs{m}, limbs{m})).is(t, "Mul(m, m)", limbs{1, m - 1}, api.OK)
	of(natmul.Mul(limbs{0, 1}, limbs{0, 0, 1})).is(t, "Mul(B, B^2)", noughts(3, 1), api.OK)
	for _, a := range samples() {
		for _, b := range samples() {
			want := natural(new(big.Int).Mul(number(a), number(b)))
			of(natmul.Mul(a, b)).is(t, "Mul", want, api.OK)
		}
	}
	for _, a := range misshapen() {
		of(natmul.Mul(a, limbs{1})).is(t, "Mul, a not in form", nil, api.ErrForm)
		of(natmul.Mul(nil, a)).is(t, "Mul, b not in form", nil, api.ErrForm)
		of(natmul.Mul(ones(maxLimbs), a)).is(t, "Mul, b not in form and too long", nil, api.ErrForm)
	}
}

func TestP2_1_MulAtTheLimit(t *testing.T) {
	greatest := ones(maxLimbs)
	of(natmul.Mul(noughts(4095, 1), noughts(4096, 1))).is(t, "Mul(B^4095, B^4096)", noughts(8191, 1), api.OK)
	of(natmul.Mul(noughts(4096, 1), noughts(4096, 1))).is(t, "Mul(B^4096, B^4096)", nil, api.ErrLimit)
	of(natmul.Mul(greatest, limbs{1})).is(t, "Mul(greatest, 1)", greatest, api.OK)
	of(natmul.Mul(limbs{1}, greatest)).is(t, "Mul(1, greatest)", greatest, api.OK)
	of(natmul.Mul(limbs{2}, greatest)).is(t, "Mul(2, greatest)", nil, api.ErrLimit)
	of(natmul.Mul(nil, greatest)).is(t, "Mul(nought, greatest)", nil, api.OK)
	of(natmul.Mul(greatest, greatest)).is(t, "Mul(greatest, greatest)", nil, api.ErrLimit)
	// Both have 8,193 limbs together: the limbs on top tell whether the product has one less.
	within, beyond := noughts(4096, 1<<31), noughts(4096, 1<<32)
	of(natmul.Mul(noughts(4095, 1<<32), within)).is(t, "Mul, one limb less", noughts(8191, 1<<63), api.OK)
	of(natmul.Mul(noughts(4095, 1<<32), beyond)).is(t, "Mul, one limb more", nil, api.ErrLimit)
	long := natural(new(big.Int).Mul(number(ofLength(5000)), number(ofLength(3192))))
	of(natmul.Mul(ofLength(3192), ofLength(5000))).is(t, "Mul of 3192 and 5000 limbs", long, api.OK)
}

func TestP2_2_Sqr(t *testing.T) {
	of(natmul.Sqr(limbs{0, 1})).is(t, "Sqr(B)", limbs{0, 0, 1}, api.OK)
	of(natmul.Sqr(limbs{m, m})).is(t, "Sqr(B^2 - 1)", limbs{1, 0, m - 1, m}, api.OK)
	of(natmul.Sqr(nil)).is(t, "Sqr of nought", nil, api.OK)
	of(natmul.Sqr(noughts(4095, 1<<63))).is(t, "Sqr, just within", noughts(8191, 1<<62), api.OK)
	of(natmul.Sqr(noughts(4096, 1))).is(t, "Sqr, just beyond", nil, api.ErrLimit)
	of(natmul.Sqr(ones(4096))).is(t, "Sqr of 4096 ones", slices.Concat(limbs{1}, noughts(4095, m-1), ones(4095)), api.OK)
	for _, a := range samples() {
		x := number(a)
		of(natmul.Sqr(a)).is(t, "Sqr", natural(x.Mul(x, x)), api.OK)
	}
	for _, a := range misshapen() {
		of(natmul.Sqr(a)).is(t, "Sqr, not in form", nil, api.ErrForm)
	}
}

func TestP2_3_Pow(t *testing.T) {
	of(natmul.Pow(limbs{2}, 64)).is(t, "2^64", limbs{0, 1}, api.OK)
	of(natmul.Pow(limbs{3}, 4)).is(t, "3^4", limbs{81}, api.OK)
	for _, a := range []limbs{nil, {1}, {2}, {0, 1}, ones(maxLimbs)} {
		of(natmul.Pow(a, 0)).is(t, "Pow to 0", limbs{1}, api.OK)
		of(natmul.Pow(a, 1)).is(t, "Pow to 1", a, api.OK)
	}
	for _, n := range []int{1, 5, math.MaxInt} {
		of(natmul.Pow(nil, n)).is(t, "Pow of nought", nil, api.OK)
		of(natmul.Pow(limbs{1}, n)).is(t, "Pow of one", limbs{1}, api.OK)
	}
	for _, a := range []limbs{{2}, {3}, {10}, {m}, {0, 1}, {5, 0, 7}, ofLength(60)} {
		for n := range 20 {
			want := natural(new(big.Int).Exp(number(a), big.NewInt(int64(n)), nil))
			of(natmul.Pow(a, n)).is(t, "Pow", want, api.OK)
		}
	}
}

func TestP2_3_PowAtTheLimit(t *testing.T) {
	of(natmul.Pow(limbs{2}, 524287)).is(t, "2^524287", noughts(8191, 1<<63), api.OK)
	of(natmul.Pow(limbs{2}, 524288)).is(t, "2^524288", nil, api.ErrLimit)
	of(natmul.Pow(noughts(1, 1), 8191)).is(t, "B^8191", noughts(8191, 1), api.OK)
	of(natmul.Pow(noughts(1, 1), 8192)).is(t, "B^8192", nil, api.ErrLimit)
	of(natmul.Pow(limbs{m}, 8192)).is(t, "(B - 1)^8192", natural(new(big.Int).Exp(number(limbs{m}), big.NewInt(8192), nil)), api.OK)
	of(natmul.Pow(limbs{m}, 8193)).is(t, "(B - 1)^8193", nil, api.ErrLimit)
	of(natmul.Pow(ones(maxLimbs), 2)).is(t, "the greatest, squared", nil, api.ErrLimit)
	// 3^n: the greatest n with at most 524,288 bits, and the next.
	n := int(math.Floor(524288 / math.Log2(3)))
	three := new(big.Int).Exp(big.NewInt(3), big.NewInt(int64(n)), nil)
	if three.BitLen() > 524288 || new(big.Int).Mul(three, big.NewInt(3)).BitLen() <= 524288 {
		t.Fatalf("3^%d is not at the limit", n)
	}
	of(natmul.Pow(limbs{3}, n)).is(t, "3^n, just within", natural(three), api.OK)
	of(natmul.Pow(limbs{3}, n+1)).is(t, "3^n, just beyond", nil, api.ErrLimit)
	for _, n := range []int{400000, 524286, 524287, 524288} {
		of(natmul.Pow(limbs{3}, n)).is(t, "3^n, beyond", nil, api.ErrLimit)
	}
	for _, a := range []limbs{{2}, {3}, {m}, ones(maxLimbs)} {
		of(natmul.Pow(a, math.MaxInt)).is(t, "Pow to the greatest int", nil, api.ErrLimit)
	}
}

func TestP2_3_PowWrong(t *testing.T) {
	for _, n := range []int{-1, math.MinInt} {
		for _, a := range append(misshapen(), nil, limbs{1}, limbs{2}) {
			of(natmul.Pow(a, n)).is(t, "Pow, n below 0", nil, api.ErrArg)
		}
	}
	for _, a := range misshapen() {
		for _, n := range []int{0, 1, 2, math.MaxInt} {
			of(natmul.Pow(a, n)).is(t, "Pow, not in form", nil, api.ErrForm)
		}
	}
}

func partsAre(t *testing.T, call string, a, b limbs, k int, low, middle, high limbs, e api.Errno) {
	t.Helper()
	x, y, z, got := natmul.Parts(a, b, k)
	of(x, got).is(t, call+", low", low, e)
	of(y, got).is(t, call+", middle", middle, e)
	of(z, got).is(t, call+", high", high, e)
}

func TestP2_4_Parts(t *testing.T) {
	partsAre(t, "Parts(1 2 3, 4 5, 1)", limbs{1, 2, 3}, limbs{4, 5}, 1, limbs{4}, limbs{13, 12}, limbs{10, 15}, api.OK)
	partsAre(t, "Parts(6, 7, 1)", limbs{6}, limbs{7}, 1, limbs{42}, nil, nil, api.OK)
	partsAre(t, "Parts(6, 7, 8192)", limbs{6}, limbs{7}, maxLimbs, limbs{42}, nil, nil, api.OK)
	partsAre(t, "Parts, lower halves nought", limbs{0, 0, 6}, limbs{0, 0, 7}, 2, nil, nil, limbs{42}, api.OK)
	partsAre(t, "Parts, a lower half with noughts on top", limbs{5, 0, 6}, limbs{7, 0, 9}, 2, limbs{35}, limbs{87}, limbs{54}, api.OK)
	partsAre(t, "Parts of noughts", nil, nil, 1, nil, nil, nil, api.OK)
	for _, a := range samples() {
		for _, b := range samples() {
			for _, k := range []int{1, 2, 41, 150, maxLimbs} {
				partsByDivision(t, a, b, k)
			}
		}
	}
}

// partsByDivision holds Parts against the library's own quotients by B^k.
func partsByDivision(t *testing.T, a, b limbs, k int) {
	t.Helper()
	cut := new(big.Int).Lsh(big.NewInt(1), uint(64*k))
	a1, a0 := new(big.Int).QuoRem(number(a), cut, new(big.Int))
	b1, b0 := new(big.Int).QuoRem(number(b), cut, new(big.Int))
	low, high := new(big.Int).Mul(a0, b0), new(big.Int).Mul(a1, b1)
	middle := new(big.Int).Add(new(big.Int).Mul(a0, b1), new(big.Int).Mul(a1, b0))
	partsAre(t, "Parts", a, b, k, natural(low), natural(middle), natural(high), api.OK)
}

func TestP2_4_PartsAtTheLimit(t *testing.T) {
	greatest, half := ones(maxLimbs), noughts(4096, 1)
	// a*b is far beyond MaxLimbs, the parts are not.
	partsAre(t, "Parts of B^8191 by itself", noughts(8191, 1), noughts(8191, 1), 4096, nil, nil, noughts(8190, 1), api.OK)
	partsAre(t, "Parts, low too long", half, half, maxLimbs, nil, nil, nil, api.ErrLimit)
	partsAre(t, "Parts, high just within", half, half, 1, nil, nil, noughts(8190, 1), api.OK)
	partsAre(t, "Parts, high too long", noughts(4097, 1), noughts(4097, 1), 1, nil, nil, nil, api.ErrLimit)
	// Of halves of 4,096 ones each product has 8,192 limbs, the sum of two one more.
	partsAre(t, "Parts, the sum in the middle too long", greatest, greatest, 4096, nil, nil, nil, api.ErrLimit)
}

func TestP2_4_PartsWrong(t *testing.T) {
	for _, k := range []int{0, -1, maxLimbs + 1, math.MinInt, math.MaxInt} {
		partsAre(t, "Parts, k outside its range", limbs{6}, limbs{7}, k, nil, nil, nil, api.ErrArg)
		partsAre(t, "Parts, k outside its range and no form", limbs{6, 0}, limbs{7}, k, nil, nil, nil, api.ErrArg)
	}
	for _, a := range misshapen() {
		for _, k := range []int{1, maxLimbs} {
			partsAre(t, "Parts, a not in form", a, limbs{7}, k, nil, nil, nil, api.ErrForm)
			partsAre(t, "Parts, b not in form", nil, a, k, nil, nil, nil, api.ErrForm)
			partsAre(t, "Parts, not in form and too long", ones(maxLimbs), a, k, nil, nil, nil, api.ErrForm)
		}
	}
}

// The three parts, each moved to its place, are the product again.
func TestP2_4_PartsMakeTheProduct(t *testing.T) {
	a, b := ofLength(210), ofLength(170)
	want, _ := natmul.Mul(a, b)
	for _, k := range []int{1, 64, 105, 169, 170, 171, 209, 210, 211} {
		low, middle, high, _ := natmul.Parts(a, b, k)
		middle, _ = nat.Shl(middle, 64*k)
		high, _ = nat.Shl(high, 128*k)
		sum, _ := nat.Add(low, middle)
		of(nat.Add(sum, high)).is(t, "the sum of the parts", want, api.OK)
	}
}

func TestP2_5_Product(t *testing.T) {
	of(natmul.Product()).is(t, "Product of none", limbs{1}, api.OK)
	of(natmul.Product(limbs{2}, limbs{3}, limbs{7})).is(t, "Product(2, 3, 7)", limbs{42}, api.OK)
	of(natmul.Product(limbs{m}, nil, limbs{m})).is(t, "Product with a nought", nil, api.OK)
	of(natmul.Product(limbs{0, 9})).is(t, "Product of one", limbs{0, 9}, api.OK)
	of(natmul.Product(nil)).is(t, "Product of nought alone", nil, api.OK)
	want := big.NewInt(1)
	var list []limbs
	for i := range 300 {
		list = append(list, ofLength(i%5+1))
		want.Mul(want, number(list[i]))
		of(natmul.Product(list...)).is(t, "Product", natural(want), api.OK)
	}
	of(natmul.Product(append(slices.Repeat([]limbs{{1}}, 100000), limbs{5})...)).is(t, "Product of ones and 5", limbs{5}, api.OK)
}

func TestP2_5_ProductAtTheLimit(t *testing.T) {
	long := noughts(5000, 1)
	twos := slices.Repeat([]limbs{{2}}, 524288)
	of(natmul.Product(twos[1:]...)).is(t, "Product of 524287 twos", noughts(8191, 1<<63), api.OK)
	of(natmul.Product(twos...)).is(t, "Product of 524288 twos", nil, api.ErrLimit)
	of(natmul.Product(append(twos, nil)...)).is(t, "Product of too many twos and a nought", nil, api.OK)
	of(natmul.Product(ones(maxLimbs), limbs{1})).is(t, "Product(greatest, 1)", ones(maxLimbs), api.OK)
	of(natmul.Product(ones(maxLimbs), limbs{2})).is(t, "Product(greatest, 2)", nil, api.ErrLimit)
	of(natmul.Product(long, long)).is(t, "Product, too long", nil, api.ErrLimit)
	of(natmul.Product(long, long, limbs{})).is(t, "Product, too long but for a nought", nil, api.OK)
	of(natmul.Product(ones(4096), ones(4096), limbs{1})).is(t, "Product of 4096 ones by itself", natural(new(big.Int).Mul(number(ones(4096)), number(ones(4096)))), api.OK)
	// By the bits alone 3*3 might be as small as 4: here the reckoning itself must see the limit.
	of(natmul.Product(noughts(8191, 1<<61), limbs{3}, limbs{3})).is(t, "Product, just beyond", nil, api.ErrLimit)
	of(natmul.Product(limbs{1}, limbs{1}, limbs{1}, noughts(8191, 1<<61), limbs{3}, limbs{3})).is(t, "Product, just beyond in one half", nil, api.ErrLimit)
}

func TestP2_5_ProductWrong(t *testing.T) {
	for _, a := range misshapen() {
		of(natmul.Product(a)).is(t, "Product, not in form", nil, api.ErrForm)
		of(natmul.Product(nil, a)).is(t, "Product, not in form behind a nought", nil, api.ErrForm)
		of(natmul.Product(a, nil)).is(t, "Product, not in form ahead of a nought", nil, api.ErrForm)
		of(natmul.Product(ones(maxLimbs), ones(maxLimbs), a)).is(t, "Product, not in form and too long", nil, api.ErrForm)
	}
}
