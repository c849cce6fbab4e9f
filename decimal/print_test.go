package decimal_test

import (
	"math/big"
	"strconv"
	"strings"
	"testing"

	"gnomon/api"
	"gnomon/decimal"
	"gnomon/oracle"
)

func TestP11_2_Kinds(t *testing.T) {
	for _, f := range oracle.Formats() {
		prints(t, f, 0, "0")
		prints(t, f, oracle.Minus(f, 0), "-0")
		prints(t, f, oracle.Infinity(f), "inf")
		prints(t, f, oracle.Minus(f, oracle.Infinity(f)), "-inf")
		for _, b := range oracle.NaNs(f) {
			prints(t, f, b, "nan")
		}
	}
}

// power: 10^n.
func power(n int) *big.Rat {
	p := new(big.Int).Exp(big.NewInt(10), big.NewInt(int64(max(n, -n))), nil)
	x := new(big.Rat).SetInt(p)
	if n < 0 {
		x.Inv(x)
	}
	return x
}

// leading: the x with 10^x at most v and v below 10^(x+1).
func leading(v *big.Rat) int {
	x := len(v.Num().String()) - len(v.Denom().String())
	if v.Cmp(power(x)) < 0 {
		x--
	}
	return x
}

// candidate is a decimal d * 10^q.
type candidate struct {
	d *big.Int
	q int
}

func (c candidate) value() *big.Rat {
	x := new(big.Rat).SetInt(c.d)
	return x.Mul(x, power(c.q))
}

// distance: how far it is away from v.
func (c candidate) distance(v *big.Rat) *big.Rat {
	x := c.value()
	return x.Abs(x.Sub(x, v))
}

// around: the decimals of n digits nearest to v, at most v and above it. No others can be nearest in a cell: each that lies farther away on the same side has one of these between it and v.
func around(v *big.Rat, n int) []candidate {
	q := leading(v) - n + 1
	scaled := new(big.Rat).Quo(v, power(q))
	d := new(big.Int).Quo(scaled.Num(), scaled.Denom())
	low, high := candidate{d, q}, candidate{new(big.Int).Add(d, big.NewInt(1)), q}
	if len(high.d.String()) > n {
		high.d.Quo(high.d, big.NewInt(10))
		high.q++
	}
	return []candidate{low, high}
}

// byDefinition: the shortest decimal as the chapter's words have it; the library says what rounds to the pattern.
func byDefinition(f api.Format, b uint64) candidate {
	v := oracle.ValueOf(f, b)
	for n := 1; ; n++ {
		var best []candidate
		for _, c := range around(v, n) {
			if oracle.Rounded(f, c.value()) != b {
				continue
			}
			if len(best) == 0 {
				best = append(best, c)
				continue
			}
			order := c.distance(v).Cmp(best[0].distance(v))
			if order < 0 || order == 0 && c.d.Bit(0) == 0 {
				best[0] = c
			}
		}
		if len(best) > 0 {
			return best[0]
		}
	}
}

// laidOut: the text of a decimal as the chapter lays it out.
func (c candidate) laidOut() string {
	digits := c.d.String()
	n := len(digits)
	k := n + c.q
	switch {
	case n <= k && k <= 17:
		return digits + strings.Repeat("0", k-n)
	case 1 <= k && k <= n-1 && k <= 17:
		return digits[:k] + "." + digits[k:]
	case -3 <= k && k <= 0:
		return "0." + strings.Repeat("0", -k) + digits
	}
	if n > 1 {
		digits = digits[:1] + "." + digits[1:]
	}
	return digits + "e" + strconv.Itoa(k-1)
}

// shortest: is the shortest decimal printed, of both signs, and read back?
func shortest(t *testing.T, f api.Format, b uint64) {
	t.Helper()
	want := byDefinition(f, b).laidOut()
	prints(t, f, b, want)
	prints(t, f, oracle.Minus(f, b), "-"+want)
	both(t, f, want, b)
}

func TestP11_2_ByDefinition(t *testing.T) {
	for _, f := range oracle.Formats() {
		for i, b := range many(f, 300) {
			if f == double && i%3 == 2 {
				continue
			}
			shortest(t, f, b)
		}
	}
}

// All subnormal numbers whose cells are wide: some hold several decimals of one digit, at more than one power of ten.
func TestP11_2_LeastNumbers(t *testing.T) {
	for _, f := range oracle.Formats() {
		for b := uint64(1); b <= 1200; b++ {
			shortest(t, f, b)
		}
	}
	for b, want := range []string{"", "1e-45", "3e-45", "4e-45", "6e-45", "7e-45", "8e-45", "1e-44", "1.1e-44", "1.3e-44", "1.4e-44"} {
		if b > 0 {
			prints(t, single, uint64(b), want)
		}
	}
	for b, want := range []string{"", "5e-324", "1e-323", "1.5e-323", "2e-323", "2.5e-323", "3e-323", "3.5e-323", "4e-323", "4.4e-323", "5e-323"} {
		if b > 0 {
			prints(t, double, uint64(b), want)
		}
	}
}

// A power of two's cell reaches half as far down as up: the nearest decimal may lie just below the cell, and one that is farther away above v in it.
func TestP11_2_LopsidedCells(t *testing.T) {
	prints(t, double, oracle.Bits(double, 0x1p-44), "5.684341886080802e-14") // ..801 is nearer, and rounds to the number below
	pushed := 0
	for _, f := range oracle.Formats() {
		for _, b := range oracle.Powers(f) {
			if b&(b-1) != 0 && b&-b < oracle.Infinity(f)&-oracle.Infinity(f) {
				continue
			}
			shortest(t, f, b)
			v, c := oracle.ValueOf(f, b), byDefinition(f, b)
			if other := around(v, len(c.d.String()))[0]; other.d.Cmp(c.d) != 0 && other.distance(v).Cmp(c.distance(v)) < 0 {
				pushed++
			}
		}
	}
	if pushed < 5 {
		t.Errorf("only %d powers of two have their nearest decimal outside the cell", pushed)
	}
}

// The end of a cell belongs to it where the pattern is even: then a decimal that is just half way to a neighbour may be the shortest.
func TestP11_2_EndsOfCells(t *testing.T) {
	for _, c := range []struct {
		f    api.Format
		b    uint64
		want string
	}{
		{double, 0x44b52d02c7e14af6, "1e23"}, // half way to the next one
		{double, 0x44b52d02c7e14af7, "1.0000000000000001e23"},
		{double, 0x44b52d02c7e14af5, "9.999999999999997e22"},
		{double, 0x4340000000000000, "9007199254740992"},
		{double, 0x4340000000000001, "9007199254740994"},
		{double, 0x4340000000000002, "9007199254740996"},
		{single, 0x4b800000, "16777216"},
		{single, 0x4b800001, "16777218"},
		{single, 0x4c000000, "33554432"},
		{single, 0x4c000001, "33554436"},
		{single, 0x4c000002, "33554440"},
	} {
		prints(t, c.f, c.b, c.want)
		shortest(t, c.f, c.b)
	}
	atEnd := 0
	for _, f := range oracle.Formats() {
		for _, b := range edgy(f) {
			shortest(t, f, b)
			shortest(t, f, b+1)
			if even := b + b&1; byDefinition(f, even).value().Cmp(oracle.Half(f, b)) == 0 {
				atEnd++
			}
		}
	}
	if atEnd < 100 {
		t.Errorf("only %d cells have their shortest decimal at an end", atEnd)
	}
}

// edgy: patterns with a short decimal half way to the next one. One of the two is even, so that the decimal belongs to its cell, and one is odd.
func edgy(f api.Format) []uint64 {
	var out []uint64
	for q := 0; q < 30; q++ {
		for d := int64(1); d < 3000; d += 2 {
			x := power(q)
			x.Mul(x, big.NewRat(d, 1))
			b := oracle.Rounded(f, x)
			if b >= oracle.Infinity(f)-1 {
				continue
			}
			for _, b := range []uint64{b - 1, b} {
				if oracle.Half(f, b).Cmp(x) == 0 && len(out) < 400 {
					out = append(out, b)
				}
			}
		}
	}
	return out
}

// Of two decimals equally near the one with even digits is right.
func TestP11_2_EquallyNear(t *testing.T) {
	for _, c := range []struct {
		f    api.Format
		x    float64
		want string
	}{
		{double, 0x1p50 + 0.25, "1125899906842624.2"},
		{double, 0x1p50 + 0.75, "1125899906842624.8"},
		{double, 0x1p50 + 1.25, "1125899906842625.2"},
		{double, 0x1p50 + 1.75, "1125899906842625.8"},
		{double, 0x1p49 + 0.125, "562949953421312.1"},
		{double, 0x1p49 + 0.25, "562949953421312.2"},
		{double, 0x1p49 + 0.75, "562949953421312.8"},
		{single, 0x1p21 + 0.25, "2097152.2"},
		{single, 0x1p21 + 0.75, "2097152.8"},
		{single, 0x1p20 + 0.25, "1048576.2"},
		{single, 0x1p20 + 0.75, "1048576.8"},
	} {
		b := oracle.Bits(c.f, c.x)
		prints(t, c.f, b, c.want)
		shortest(t, c.f, b)
	}
	for _, f := range oracle.Formats() {
		for exp := 10; exp < 60; exp++ {
			for _, quarters := range []int64{1, 3, 5, 7, 9, 11, 13, 15} {
				x := new(big.Rat).SetInt(new(big.Int).Lsh(big.NewInt(1), uint(exp)))
				x.Add(x, big.NewRat(quarters, 8))
				shortest(t, f, oracle.Rounded(f, x))
			}
		}
	}
}

// Powers of ten and their neighbours, where the decimal's first digits change.
func TestP11_2_PowersOfTen(t *testing.T) {
	for _, f := range oracle.Formats() {
		for exp := -330; exp < 310; exp++ {
			b := oracle.Rounded(f, power(exp))
			for _, b := range []uint64{b - 1, b, b + 1} {
				if b > 0 && b < oracle.Infinity(f) {
					shortest(t, f, b)
				}
			}
		}
	}
}

// The library tells the shortest decimal too, and quickly.
func TestP11_2_AsTheLibrary(t *testing.T) {
	for _, f := range oracle.Formats() {
		for _, b := range many(f, 6000) {
			text, _ := decimal.Print(f, b)
			want := strconv.FormatFloat(oracle.Float(f, b), 'e', -1, int(f))
			if got := scientific(t, text); got != want {
				t.Errorf("Print(%d, %x) = %q, the library's is %q", f, b, text, want)
			}
			reads(t, f, text, b)
		}
	}
}

// scientific: a text that Print told, in the library's layout, with the digits that it has.
func scientific(t *testing.T, s string) string {
	t.Helper()
	x, ok := new(big.Rat).SetString(s)
	if !ok {
		t.Fatalf("%q is no number", s)
	}
	exp := leading(x)
	digits := strings.TrimLeft(strings.ReplaceAll(strings.Split(s, "e")[0], ".", ""), "0")
	digits = strings.TrimRight(digits, "0")
	if len(digits) > 1 {
		digits = digits[:1] + "." + digits[1:]
	}
	sign := "+"
	if exp < 0 {
		sign, exp = "-", -exp
	}
	if exp < 10 {
		sign += "0"
	}
	return digits + "e" + sign + strconv.Itoa(exp)
}

// Each layout at both its ends: the text is what Print tells of the pattern to which it is read.
func TestP11_3_Layouts(t *testing.T) {
	for _, s := range []string{
		"1", "9", "10", "120", "100000", "12345678901234568", "10000000000000000", "90000000000000000", "99999999999999980", "72057594037927940", "18014398509481984",
		"1e17", "2e17", "1.2e17", "1.2345678901234568e17", "1e18", "1.7976931348623157e308",
		"1.5", "9.9", "12.25", "1.2345678901234567", "1801439850948198.2", "123456789012345.67", "12345678901234.568",
		"0.5", "0.1", "0.9", "0.12345678901234568", "0.05", "0.005", "0.0005", "0.0001", "0.00012345678901234567", "0.0009999999999999998",
		"1e-5", "9e-5", "9.9e-5", "9.999999999999999e-5", "1.2345678901234568e-5", "1.5e-5", "5e-324", "2.2250738585072014e-308",
	} {
		for _, s := range []string{s, "-" + s} {
			b, _ := decimal.Parse(double, s)
			prints(t, double, b, s)
		}
	}
	for _, s := range []string{
		"1", "10", "10000000000000000", "90000000000000000", "12345680000000000", "99999990000000000", "16777216",
		"1e17", "1.2e17", "1.2345679e17", "3.4028235e38",
		"1.5", "1.2345678", "1234567.9", "16.25",
		"0.5", "0.12345679", "0.05", "0.005", "0.0001", "0.00012345679",
		"1e-5", "9.999999e-5", "1.2345679e-5", "1e-45", "1.1754944e-38",
	} {
		for _, s := range []string{s, "-" + s} {
			b, _ := decimal.Parse(single, s)
			prints(t, single, b, s)
		}
	}
}

// One number of each count of digits at each place of the point about the layouts' ends.
func TestP11_3_EachPlaceOfThePoint(t *testing.T) {
	for _, f := range oracle.Formats() {
		for n := 1; n <= 17; n++ {
			for k := -8; k <= 22; k++ {
				s := "12345678912345678"[:n] + "e" + strconv.Itoa(k-n)
				b, _ := decimal.Parse(f, s)
				shortest(t, f, b)
			}
		}
	}
}
