package hexfloat_test

import (
	"math/big"
	"regexp"
	"strconv"
	"strings"
	"testing"

	"gnomon/api"
	"gnomon/oracle"
)

func TestP10_1_Words(t *testing.T) {
	for _, f := range oracle.Formats() {
		end := oracle.Infinity(f)
		reads(t, f, "nan", quiet(f))
		reads(t, f, "inf", end)
		reads(t, f, "+inf", end)
		reads(t, f, "-inf", oracle.Minus(f, end))
	}
}

// form is the chapter's form of a text.
var form = regexp.MustCompile(`\A(nan|[+-]?inf|[+-]?0[xX]([0-9a-fA-F]+(\.[0-9a-fA-F]*)?|\.[0-9a-fA-F]+)[pP][+-]?[0-9]+)\z`)

// asSaid: is the text read if it is of the form, as the library's fraction of it rounds, and refused if not?
func asSaid(t *testing.T, f api.Format, s string) {
	t.Helper()
	if !form.MatchString(s) {
		refuses(t, f, s, api.ErrText)
		return
	}
	minus := strings.HasPrefix(s, "-")
	word := strings.TrimLeft(s, "+-")
	if word == "nan" || word == "inf" {
		return
	}
	x, ok := new(big.Rat).SetString(word)
	if !ok {
		t.Fatalf("the library can't read %q", s)
	}
	want := oracle.Rounded(f, x)
	if minus {
		want = oracle.Minus(f, want)
	}
	reads(t, f, s, want)
}

func TestP10_1_Parts(t *testing.T) {
	for _, f := range oracle.Formats() {
		for _, sign := range []string{"", "+", "-"} {
			for _, lead := range []string{"0x", "0X"} {
				for _, digits := range []string{"1", "0", "00", "1.", "0.", ".1", ".0", "1.8", "001.800", "000", "0.000", "fedcba9876543210.FEDCBA9876543210", "aBcDeF", ".000000000000000000000000AbC", "123456789abcdef0123456789abcdef0123.", "7.fffffffffffffffffffffffffff"} {
					for _, p := range []string{"p", "P"} {
						for _, exp := range []string{"0", "+0", "-0", "3", "+3", "-3", "12", "007", "-0012", "+00000000000000000000000000000130", "-1060", "-145"} {
							asSaid(t, f, sign+lead+digits+p+exp)
						}
					}
				}
			}
		}
	}
}

// Every way to break a text by one byte, and the ways that do not.
func TestP10_1_Broken(t *testing.T) {
	for _, f := range oracle.Formats() {
		for _, s := range []string{"", "nan", "inf", "+inf", "-inf", "0x1p0", "-0x1.8p+1", "+0X.aP-07", "0xAp12"} {
			for _, edited := range oracle.Edits(s, oracle.Odd) {
				asSaid(t, f, edited)
			}
		}
	}
	for _, s := range []string{"0", "x", "0x.", "0xp", "0x.p", "0x1.", "0x1.p", "0x1p+-1", "0x1p1.0", "0x1p0x1", "0x1p1e1", "1", "1.5", "1e5", "infinity", "-infinity", "nan0", "nan()", "0x0x1p0", "0b1p0", "0x1_0p0", "+-0x1p0", "0x-1p0", "0x+1p0", "0x1p 0", "0x1 p0", "0x\u06611p0", "0x1p\u0661", "\u22120x1p0", "\ufeff0x1p0", "0x1p0\x00", "0x1p0\n", "\xff", "∞"} {
		refuses(t, double, s, api.ErrText)
		refuses(t, single, s, api.ErrText)
	}
}

// exactly: the text of a dyadic fraction above nought: its whole digits, and the exponent behind the p.
func exactly(x *big.Rat) (digits, exp string) {
	twos := x.Denom().BitLen() - 1
	return x.Num().Text(16), strconv.Itoa(-twos)
}

// Half way between two neighbours the even one is right; a hair beside it, which only the last digit of the longest text tells, the nearer one.
func TestP10_1_HalfWay(t *testing.T) {
	for _, f := range oracle.Formats() {
		for _, b := range append(oracle.Sizes(f), 0) {
			even := b + b&1
			half := oracle.Half(f, b)
			digits, exp := exactly(half)
			both(t, f, "0x"+digits+"p"+exp, even)
			both(t, f, oracle.All("0x"+digits+".", "0", "p"+exp, api.MaxText-1), even)
			both(t, f, oracle.All("0x"+digits+".", "0", "1p"+exp, api.MaxText-1), b+1)
			less := new(big.Int).Sub(half.Num(), big.NewInt(1)).Text(16)
			both(t, f, oracle.All("0x"+less+".", "f", "p"+exp, api.MaxText-1), b)
		}
	}
}

// both: is the text read, and with the other sign too?
func both(t *testing.T, f api.Format, s string, want uint64) {
	t.Helper()
	reads(t, f, s, want)
	reads(t, f, "-"+s, oracle.Minus(f, want))
}

func TestP10_1_Ends(t *testing.T) {
	for _, f := range oracle.Formats() {
		least, most := -1075, 1024
		if f == single {
			least, most = -150, 128
		}
		end := oracle.Infinity(f)
		at := func(digits string, exp int) string { return "0x" + digits + "p" + strconv.Itoa(exp) }
		both(t, f, at("1", least), 0)
		both(t, f, at("1", least-1), 0)
		both(t, f, at("0.ffffffffffffffffffffffffff", least), 0)
		both(t, f, at("1.00000000000000000000000001", least), 1)
		both(t, f, at("2.ffffffffffffffffffffffffff", least), 1)
		both(t, f, at("3", least), 2)
		both(t, f, at("1", most-1), end-(end&-end))
		both(t, f, at("1", most), end)
		both(t, f, at("0.ffffffffffffffffffffffffff", most), end)
		both(t, f, at("1", most+1), end)
	}
	both(t, double, "0x.fffffffffffffbffffffffffffffp1024", 0x7fefffffffffffff)
	both(t, double, "0x.fffffffffffffcp1024", 0x7ff0000000000000)
	both(t, single, "0x.ffffff7fffffffffffffp128", 0x7f7fffff)
	both(t, single, "0x.ffffff8p128", 0x7f800000)
}

// far: exponents that no number of digits can make up for.
func far() []string {
	out := []string{"20000", "99999", "100000", "100001", "1000000", "1048576", "1048577", "2147483648", "4294967296", "9223372036854775807", "9223372036854775808", "18446744073709551615", "18446744073709551616", "18446744073709551617", "36893488147419103232"}
	return append(out, strings.Repeat("9", 3900), "1"+strings.Repeat("0", 3900), strings.Repeat("0", 1900)+"1"+strings.Repeat("0", 1999))
}

func TestP10_1_FarExponents(t *testing.T) {
	for _, f := range oracle.Formats() {
		end := oracle.Infinity(f)
		for _, exp := range far() {
			for _, digits := range []string{"0x1p", "0xabc.defP", "0x.000000000001p"} {
				both(t, f, digits+exp, end)
				both(t, f, digits+"+"+exp, end)
				both(t, f, digits+"-"+exp, 0)
			}
			for _, digits := range []string{"0x0p", "0x.0P", "0x000.000p"} {
				both(t, f, digits+exp, 0)
				both(t, f, digits+"-"+exp, 0)
			}
		}
	}
}

// Many digits and an exponent that makes up for them.
func TestP10_1_DigitsAgainstExponents(t *testing.T) {
	for _, f := range oracle.Formats() {
		one := oracle.Bits(f, 1)
		for _, n := range []int{0, 1, 15, 16, 17, 31, 32, 33, 255, 256, 1000, 3980, 3989} {
			places := strconv.Itoa(4 * n)
			noughts := strings.Repeat("0", n)
			both(t, f, "0x1"+noughts+"p-"+places, one)
			if n > 0 {
				both(t, f, "0x."+noughts[1:]+"1p"+places, one)
			}
			both(t, f, "0x"+noughts+"1p0", one)
			both(t, f, "0x1."+noughts+"p0", one)
			both(t, f, "0x1p"+noughts+"0", one)
			both(t, f, "0x1p-"+noughts+"1", oracle.Bits(f, 0.5))
		}
	}
}

func TestP10_1_Lengths(t *testing.T) {
	for _, f := range oracle.Formats() {
		one := oracle.Bits(f, 1)
		for _, c := range [][3]string{{"0x", "0", "1p0"}, {"+0x1.", "0", "p0"}, {"0x1p", "0", ""}, {"0x1p+", "0", "0"}} {
			reads(t, f, oracle.All(c[0], c[1], c[2], api.MaxText), one)
			refuses(t, f, oracle.All(c[0], c[1], c[2], api.MaxText+1), api.ErrLong)
		}
		for _, middle := range []string{"x", "0", " ", "\x00", "\xff"} {
			refuses(t, f, oracle.All("", middle, "", api.MaxText), api.ErrText)
			refuses(t, f, oracle.All("", middle, "", api.MaxText+1), api.ErrLong)
			refuses(t, f, oracle.All("", middle, "", 100000), api.ErrLong)
		}
		refuses(t, f, oracle.All("0x1p0", "0", "x", api.MaxText), api.ErrText)
	}
}
