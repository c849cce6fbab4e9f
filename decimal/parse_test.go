package decimal_test

import (
	"math/big"
	"regexp"
	"strconv"
	"strings"
	"testing"

	"gnomon/api"
	"gnomon/oracle"
)

func TestP11_1_Words(t *testing.T) {
	for _, f := range oracle.Formats() {
		end := oracle.Infinity(f)
		reads(t, f, "nan", quiet(f))
		reads(t, f, "inf", end)
		reads(t, f, "+inf", end)
		reads(t, f, "-inf", oracle.Minus(f, end))
	}
}

// form is the chapter's form of a text.
var form = regexp.MustCompile(`\A(nan|[+-]?(inf|([0-9]+(\.[0-9]*)?|\.[0-9]+)([eE][+-]?[0-9]+)?))\z`)

// asSaid: is the text read if it is of the form, as the library's fraction of it rounds, and refused if not?
func asSaid(t *testing.T, f api.Format, s string) {
	t.Helper()
	if !form.MatchString(s) {
		refuses(t, f, s, api.ErrText)
		return
	}
	minus := strings.HasPrefix(s, "-")
	word := strings.TrimLeft(s, "+-")
	if word == "nan" || word == "inf" {
		return
	}
	x, ok := new(big.Rat).SetString(word)
	if !ok {
		t.Fatalf("the library can't read %q", s)
	}
	want := oracle.Rounded(f, x)
	if minus {
		want = oracle.Minus(f, want)
	}
	reads(t, f, s, want)
}

func TestP11_1_Parts(t *testing.T) {
	for _, f := range oracle.Formats() {
		for _, sign := range []string{"", "+", "-"} {
			for _, digits := range []string{"1", "0", "00", "1.", "0.", ".1", ".0", "1.5", "001.500", "000", "0.000", "9876543210.0123456789", ".0000000000000000000000000000001", "123456789012345678901234567890123456789.", "7.99999999999999999999999999999999", "16777217", "9007199254740993"} {
				for _, exp := range []string{"", "e0", "E0", "e+0", "e-0", "e3", "E+3", "e-3", "e12", "e007", "E-0012", "e+00000000000000000000000000000030", "e-310", "e-320", "e-44", "E300"} {
					asSaid(t, f, sign+digits+exp)
				}
			}
		}
	}
}

// Every way to break a text by one byte, and the ways that do not.
func TestP11_1_Broken(t *testing.T) {
	for _, f := range oracle.Formats() {
		for _, s := range []string{"", "nan", "inf", "+inf", "-inf", "1", "-1.5e+1", "+.5E-07", "12.e3", "0.25"} {
			for _, edited := range oracle.Edits(s, oracle.Odd) {
				asSaid(t, f, edited)
			}
		}
	}
	for _, s := range []string{"+", "-", "e", "e5", "+e5", ".", "+.", ".e5", "1..2", "1.2.3", "1e5.0", "1e.5", "1e+-5", "1e5e5", "0x1", "0x1p0", "0b1", "1_0", "1,5", "1p5", "1f", "1d0", "infinity", "-infinity", "nan0", "nan(1)", "Nan", "NaN", "INF", "iNf", "--1", "+-1", "1 e5", "1e 5", "1.e", "\u0661", "1\u0661", "\u22121", "\ufeff1", "1\x00", "1\n", "\xff", "∞", "½", "१"} {
		refuses(t, double, s, api.ErrText)
		refuses(t, single, s, api.ErrText)
	}
}

// exactly: a dyadic fraction above nought with all its digits, with a point and at least one digit behind it.
func exactly(x *big.Rat) string {
	return x.FloatString(max(x.Denom().BitLen()-1, 1))
}

// justBelow: the same digits, but for a last one that is less by one (and those ahead of it, if it was a nought).
func justBelow(x *big.Rat) string {
	n := max(x.Denom().BitLen()-1, 1)
	step := new(big.Rat).SetFrac(big.NewInt(1), new(big.Int).Exp(big.NewInt(10), big.NewInt(int64(n)), nil))
	return step.Sub(x, step).FloatString(n)
}

// Half way between two neighbours the even one is right; a hair beside it, which only the last digit of the longest text tells, the nearer one.
func TestP11_1_HalfWay(t *testing.T) {
	for _, f := range oracle.Formats() {
		for i, b := range append([]uint64{0, oracle.Infinity(f) - 1}, oracle.Sizes(f)...) {
			if i > 100 && i%29 > 2 { // the long texts take their time
				continue
			}
			even := b + b&1
			half := oracle.Half(f, b)
			digits, less := exactly(half), justBelow(half)
			both(t, f, digits, even)
			both(t, f, oracle.All(digits, "0", "", api.MaxText-1), even)
			both(t, f, oracle.All(digits, "0", "1", api.MaxText-1), b+1)
			both(t, f, oracle.All(less, "9", "", api.MaxText-1), b)
		}
	}
}

// The same with the point moved away from its place and an exponent that brings it back.
func TestP11_1_HalfWayWithExponents(t *testing.T) {
	for _, f := range oracle.Formats() {
		for _, b := range []uint64{0, 1, 2, 3, oracle.Bits(f, 0.1), oracle.Bits(f, 1), oracle.Bits(f, 1) + 1, oracle.Bits(f, 1e30), oracle.Infinity(f) - 2, oracle.Infinity(f) - 1} {
			even := b + b&1
			whole, fraction, _ := strings.Cut(exactly(oracle.Half(f, b)), ".")
			digits, places := whole+fraction, len(fraction)
			both(t, f, digits+"e-"+strconv.Itoa(places), even)
			both(t, f, "."+digits+"E"+strconv.Itoa(len(whole)), even)
			both(t, f, digits+"000.000e-"+strconv.Itoa(places+3), even)
			both(t, f, digits+"."+strings.Repeat("0", 2000)+"1e-"+strconv.Itoa(places), b+1)
			both(t, f, "0."+strings.Repeat("0", 1000)+digits+strings.Repeat("0", 1900)+"1e"+strconv.Itoa(1000+len(whole)), b+1)
		}
	}
}

func TestP11_1_Ends(t *testing.T) {
	for _, c := range []struct {
		s    string
		want uint64
	}{
		{"2.4703282292062327e-324", 0}, {"2.4703282292062328e-324", 1}, {"7.4109846876186981e-324", 1}, {"7.4109846876186982e-324", 2},
		{"4.9406564584124654e-324", 1}, {"2.2250738585072014e-308", 0x0010000000000000}, {"2.2250738585072009e-308", 0x000fffffffffffff},
		{"1.7976931348623158e308", 0x7fefffffffffffff}, {"1.7976931348623158079e308", 0x7fefffffffffffff}, {"1.797693134862315808e308", 0x7ff0000000000000}, {"1.7976931348623159e308", 0x7ff0000000000000},
		{"17976931348623157" + strings.Repeat("0", 292), 0x7fefffffffffffff},
	} {
		both(t, double, c.s, c.want)
	}
	for _, c := range []struct {
		s    string
		want uint64
	}{
		{"7.006492321624085e-46", 0}, {"7.006492321624086e-46", 1}, {"2.101947696487225e-45", 1}, {"2.101947696487226e-45", 2},
		{"1.1754944e-38", 0x00800000}, {"1.1754942e-38", 0x007fffff},
		{"3.4028235e38", 0x7f7fffff}, {"3.40282356e38", 0x7f7fffff}, {"340282356779733661637539395458142568447", 0x7f7fffff}, {"340282356779733661637539395458142568448", 0x7f800000}, {"3.4028236e38", 0x7f800000},
	} {
		both(t, single, c.s, c.want)
	}
}

// far: exponents that no number of digits can make up for.
func far() []string {
	out := []string{"5000", "9999", "99999", "100000", "100001", "1000000", "1048577", "2147483648", "4294967296", "9223372036854775807", "9223372036854775808", "18446744073709551615", "18446744073709551616", "18446744073709551617", "36893488147419103232"}
	return append(out, strings.Repeat("9", 3900), "1"+strings.Repeat("0", 3900), strings.Repeat("0", 1900)+"1"+strings.Repeat("0", 1999))
}

func TestP11_1_FarExponents(t *testing.T) {
	for _, f := range oracle.Formats() {
		end := oracle.Infinity(f)
		for _, exp := range far() {
			for _, digits := range []string{"1e", "123.456E", ".000000000001e"} {
				both(t, f, digits+exp, end)
				both(t, f, digits+"+"+exp, end)
				both(t, f, digits+"-"+exp, 0)
			}
			for _, digits := range []string{"0e", ".0E", "000.000e"} {
				both(t, f, digits+exp, 0)
				both(t, f, digits+"+"+exp, 0)
				both(t, f, digits+"-"+exp, 0)
			}
		}
	}
}

// All powers of ten within and about what the formats reach.
func TestP11_1_PowersOfTen(t *testing.T) {
	for _, f := range oracle.Formats() {
		for exp := -450; exp <= 450; exp++ {
			asSaid(t, f, "1e"+strconv.Itoa(exp))
			asSaid(t, f, "9.999999999999999999e"+strconv.Itoa(exp))
			asSaid(t, f, "-123456789012345678901234567890e"+strconv.Itoa(exp))
		}
	}
}

// Many digits and an exponent that makes up for them.
func TestP11_1_DigitsAgainstExponents(t *testing.T) {
	for _, f := range oracle.Formats() {
		one := oracle.Bits(f, 1)
		for _, n := range []int{0, 1, 18, 19, 20, 300, 400, 401, 402, 1000, 3980, 3990} {
			places := strconv.Itoa(n)
			noughts := strings.Repeat("0", n)
			both(t, f, "1"+noughts+"e-"+places, one)
			if n > 0 {
				both(t, f, "."+noughts[1:]+"1e"+places, one)
			}
			both(t, f, noughts+"1", one)
			both(t, f, "1."+noughts, one)
			both(t, f, "1e"+noughts+"0", one)
			both(t, f, "1e-"+noughts+"1", oracle.Rounded(f, big.NewRat(1, 10)))
			both(t, f, noughts+"0", 0)
			both(t, f, "."+noughts+"0e300", 0)
		}
		most := strings.Repeat("9", 3990)
		both(t, f, most+"e-3990", one)
		both(t, f, most+"e-3600", oracle.Infinity(f))
		both(t, f, most+"e-4400", 0)
		both(t, f, most, oracle.Infinity(f))
		both(t, f, "."+most, one)
	}
}

func TestP11_1_Lengths(t *testing.T) {
	for _, f := range oracle.Formats() {
		one := oracle.Bits(f, 1)
		for _, c := range [][3]string{{"", "0", "1"}, {"+1.", "0", ""}, {"1e", "0", ""}, {"1E+", "0", "0"}} {
			reads(t, f, oracle.All(c[0], c[1], c[2], api.MaxText), one)
			refuses(t, f, oracle.All(c[0], c[1], c[2], api.MaxText+1), api.ErrLong)
		}
		for _, middle := range []string{"x", ".", " ", "\x00", "\xff"} {
			refuses(t, f, oracle.All("", middle, "", api.MaxText), api.ErrText)
			refuses(t, f, oracle.All("", middle, "", api.MaxText+1), api.ErrLong)
			refuses(t, f, oracle.All("", middle, "", 100000), api.ErrLong)
		}
		refuses(t, f, oracle.All("1", "0", "x", api.MaxText), api.ErrText)
		reads(t, f, oracle.All("", "1", "", api.MaxText), oracle.Infinity(f))
	}
}
