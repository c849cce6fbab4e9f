package decimal_test

import (
	"math/big"
	"strconv"
	"strings"
	"testing"

	"gnomon/api"
	"gnomon/decimal"
	"gnomon/oracle"
)

func TestP11_4_Noughts(t *testing.T) {
	for _, f := range oracle.Formats() {
		for n := 1; n <= api.MaxPlaces; n++ {
			want := "0." + strings.Repeat("0", n-1) + "e0"
			if n == 1 {
				want = "0e0"
			}
			tells(t, f, 0, n, want)
			tells(t, f, oracle.Minus(f, 0), n, "-"+want)
		}
	}
}

// toDigits: the text of n digits as the chapter's words have it, by the library's whole numbers.
func toDigits(v *big.Rat, n int) string {
	x := leading(v)
	scaled := new(big.Rat).Quo(v, power(x-n+1))
	d, rest := new(big.Int).QuoRem(scaled.Num(), scaled.Denom(), new(big.Int))
	order := rest.Lsh(rest, 1).Cmp(scaled.Denom())
	if order > 0 || order == 0 && d.Bit(0) == 1 {
		d.Add(d, big.NewInt(1))
	}
	digits := d.String()
	if len(digits) > n {
		digits, x = digits[:n], x+1
	}
	if n > 1 {
		digits = digits[:1] + "." + digits[1:]
	}
	return digits + "e" + strconv.Itoa(x)
}

var counts = []int{1, 2, 3, 8, 9, 10, 15, 16, 17, 18, 50, 112, 113, 309, 766, 767, 768, 799, 800}

func TestP11_4_ByDefinition(t *testing.T) {
	for _, f := range oracle.Formats() {
		for i, b := range many(f, 30) {
			if i > 100 && i%41 > 2 {
				continue
			}
			for _, n := range counts {
				want := toDigits(oracle.ValueOf(f, b), n)
				tells(t, f, b, n, want)
				tells(t, f, oracle.Minus(f, b), n, "-"+want)
			}
		}
	}
}

func TestP11_4_AsTheLibrary(t *testing.T) {
	for _, f := range oracle.Formats() {
		for i, b := range many(f, 3000) {
			n := i%30 + 1
			mantissa, exp, _ := strings.Cut(strconv.FormatFloat(oracle.Float(f, b), 'e', n-1, int(f)), "e")
			x, _ := strconv.Atoi(exp)
			tells(t, f, b, n, mantissa+"e"+strconv.Itoa(x))
		}
	}
}

func TestP11_4_Ties(t *testing.T) {
	for _, c := range []struct {
		x    float64
		n    int
		want string
	}{
		{0.5, 1, "5e-1"}, {1.5, 1, "2e0"}, {2.5, 1, "2e0"}, {3.5, 1, "4e0"}, {8.5, 1, "8e0"}, {9.5, 1, "1e1"},
		{1.25, 2, "1.2e0"}, {1.75, 2, "1.8e0"}, {99.5, 2, "1.0e2"}, {98.5, 2, "9.8e1"}, {999.5, 3, "1.00e3"}, {15, 1, "2e1"}, {25, 1, "2e1"}, {95, 1, "1e2"}, {85, 1, "8e1"},
		{0.375, 2, "3.8e-1"}, {0.625, 2, "6.2e-1"}, {0.0625, 2, "6.2e-2"}, {0.1875, 3, "1.88e-1"}, {1024.5, 4, "1.024e3"}, {1025.5, 4, "1.026e3"},
		{125000, 2, "1.2e5"}, {135000, 2, "1.4e5"}, {0x1p-10, 6, "9.76562e-4"},
	} {
		for _, f := range oracle.Formats() {
			b := oracle.Bits(f, c.x)
			tells(t, f, b, c.n, c.want)
			tells(t, f, oracle.Minus(f, b), c.n, "-"+c.want)
		}
	}
	// A hair beside the ties: neighbours of what is a tie.
	tells(t, double, oracle.Bits(double, 2.5)+1, 1, "3e0")
	tells(t, double, oracle.Bits(double, 3.5)-1, 1, "3e0")
	tells(t, single, oracle.Bits(single, 2.5)+1, 1, "3e0")
	tells(t, single, oracle.Bits(single, 3.5)-1, 1, "3e0")
	tells(t, double, oracle.Bits(double, 9.5)-1, 1, "9e0")
	tells(t, single, oracle.Bits(single, 9.5)-1, 1, "9e0")
}

// Rounding that carries through all digits makes the exponent one greater, and no digit more.
func TestP11_4_Carries(t *testing.T) {
	for exp := -300; exp <= 300; exp++ {
		below, _ := decimal.Parse(double, "9.9999999999999e"+strconv.Itoa(exp))
		for n := 1; n <= 13; n++ {
			want := "1." + strings.Repeat("0", n-1) + "e"
			if n == 1 {
				want = "1e"
			}
			tells(t, double, below, n, want+strconv.Itoa(exp+1))
		}
		tells(t, double, below, 14, "9.9999999999999e"+strconv.Itoa(exp))
	}
	tells(t, double, 0x3fefffffffffffff, 16, "9.999999999999999e-1")
	tells(t, double, 0x3fefffffffffffff, 15, "1.00000000000000e0")
	tells(t, double, 0x7fefffffffffffff, 1, "2e308")
	tells(t, single, 0x7f7fffff, 2, "3.4e38")
}

// Digits of 767 and more tell the number exactly: what is told is its value, with noughts behind it.
func TestP11_4_Exactly(t *testing.T) {
	for _, f := range oracle.Formats() {
		for i, b := range append([]uint64{1, oracle.Infinity(f) - 1, 0x000fffffffffffff & (oracle.Infinity(f) - 1)}, oracle.Sizes(f)...) {
			if i > 60 && i%37 > 1 {
				continue
			}
			for _, n := range []int{767, 800} {
				s, _ := decimal.Digits(f, b, n)
				x, ok := new(big.Rat).SetString(s)
				if !ok || x.Cmp(oracle.ValueOf(f, b)) != 0 {
					t.Errorf("Digits(%d, %x, %d) = %.50q is not exact", f, b, n, s)
				}
			}
		}
	}
	s, _ := decimal.Digits(double, 0x000fffffffffffff, 767)
	if last := s[:strings.Index(s, "e")]; strings.HasSuffix(last, "0") || len(last) != 768 {
		t.Errorf("the number of the most digits has %d bytes ahead of its exponent", len(last))
	}
}

func TestP11_4_ReadBack(t *testing.T) {
	for _, f := range oracle.Formats() {
		enough := 17
		if f == single {
			enough = 9
		}
		for _, b := range append(many(f, 1500), 0) {
			for _, n := range []int{enough, enough + 1, enough + 3} {
				s, _ := decimal.Digits(f, b, n)
				both(t, f, s, b)
			}
		}
		for _, b := range oracle.Finite(f) {
			for _, n := range []int{100, 767, api.MaxPlaces} {
				s, _ := decimal.Digits(f, b, n)
				reads(t, f, s, b)
			}
		}
	}
}
