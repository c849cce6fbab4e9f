package hexfloat_test

import (
	"math"
	"strconv"
	"strings"
	"testing"

	"gnomon/api"
	"gnomon/hexfloat"
	"gnomon/oracle"
)

const (
	single = api.Single
	double = api.Double
)

func reads(t *testing.T, f api.Format, s string, want uint64) {
	t.Helper()
	if got, e := hexfloat.Parse(f, s); got != want || e != api.OK {
		t.Errorf("Parse(%d, %.70q) of %d bytes = %x, error %d, want %x", f, s, len(s), got, e, want)
	}
}

// refuses: the error, and nothing beside it.
func refuses(t *testing.T, f api.Format, s string, want api.Errno) {
	t.Helper()
	if got, e := hexfloat.Parse(f, s); got != 0 || e != want {
		t.Errorf("Parse(%d, %.70q) of %d bytes = %x, error %d, want error %d", f, s, len(s), got, e, want)
	}
}

func prints(t *testing.T, f api.Format, b uint64, want string) {
	t.Helper()
	if got, e := hexfloat.Print(f, b); got != want || e != api.OK {
		t.Errorf("Print(%d, %x) = %q, error %d, want %q", f, b, got, e, want)
	}
}

func fails(t *testing.T, f api.Format, b uint64, want api.Errno) {
	t.Helper()
	if got, e := hexfloat.Print(f, b); got != "" || e != want {
		t.Errorf("Print(%d, %x) = %q, error %d, want error %d", f, b, got, e, want)
	}
}

func quiet(f api.Format) uint64 {
	if f == single {
		return 0x7fc00001
	}
	return 0x7ff8000000000001
}

func TestExamples(t *testing.T) {
	for _, s := range []string{"0x1p+0", "0X.8P1", "0x10p-4", "+0x1.p0", "0x0001.000p00"} {
		reads(t, double, s, 0x3FF0000000000000)
	}
	for _, c := range []struct {
		f    api.Format
		s    string
		want uint64
	}{
		{double, "-0x0p9", 0x8000000000000000},
		{double, "0x0p99999999999999999999", 0},
		{double, "0x1.00000000000008p0", 0x3FF0000000000000},
		{double, "0x1.00000000000018p0", 0x3FF0000000000002},
		{double, "0x1.000000000000080000000001p0", 0x3FF0000000000001},
		{double, "0x1p1024", 0x7FF0000000000000},
		{double, "0x1.fffffffffffff7p1023", 0x7FEFFFFFFFFFFFFF},
		{double, "0x1.fffffffffffff8p1023", 0x7FF0000000000000},
		{double, "-0x1p99999999999999999999", 0xFFF0000000000000},
		{double, "0x1p-1074", 1},
		{double, "0x1p-1075", 0},
		{double, "0x1.8p-1075", 1},
		{double, "-0x1p-1075", 0x8000000000000000},
		{single, "0x1p-150", 0},
		{single, "0x3p-150", 2},
		{single, "0x1.000001p0", 0x3F800000},
		{single, "0x1.000003p0", 0x3F800002},
		{single, "0xffffffp104", 0x7F7FFFFF},
		{single, "0x1ffffffp103", 0x7F800000},
	} {
		reads(t, c.f, c.s, c.want)
	}
	for _, s := range []string{"", "0x", "0xp0", "0x.p0", "0x1", "0x1p", "0x1p+", "1p0", "0x1p0 ", " 0x1p0", "+nan", "-nan", "Inf", "INF", "NaN", "0x1.8.8p0", "0x1g0p0", "--0x1p0", "0x1p0x1"} {
		refuses(t, double, s, api.ErrText)
	}
	refuses(t, 7, "", api.ErrArg)
	refuses(t, double, strings.Repeat("0", 4001), api.ErrLong)
}

func TestExamplesPrinted(t *testing.T) {
	for _, c := range []struct {
		f    api.Format
		b    uint64
		want string
	}{
		{double, 0x3FF0000000000000, "0x1p+0"},
		{double, 0xC008000000000000, "-0x1.8p+1"},
		{double, 1, "0x1p-1074"},
		{double, 3, "0x1.8p-1073"},
		{double, 0x7FEFFFFFFFFFFFFF, "0x1.fffffffffffffp+1023"},
		{single, 0x3F800001, "0x1.000002p+0"},
		{single, 0x00000003, "0x1.8p-148"},
		{double, 0x8000000000000000, "-0x0p+0"},
		{double, 0xFFF8000000000000, "nan"},
		{single, 0xFF800000, "-inf"},
		{double, 0x3FB999999999999A, "0x1.999999999999ap-4"},
	} {
		prints(t, c.f, c.b, c.want)
	}
}

func TestP10_2_Kinds(t *testing.T) {
	for _, f := range oracle.Formats() {
		prints(t, f, 0, "0x0p+0")
		prints(t, f, oracle.Minus(f, 0), "-0x0p+0")
		prints(t, f, oracle.Infinity(f), "inf")
		prints(t, f, oracle.Minus(f, oracle.Infinity(f)), "-inf")
		for _, b := range oracle.NaNs(f) {
			prints(t, f, b, "nan")
		}
	}
}

// told: the library's text of a number, whose exponents have at least two digits.
func told(f api.Format, b uint64) string {
	text := strconv.FormatFloat(oracle.Float(f, b), 'x', -1, int(f))
	digits, exp, _ := strings.Cut(text, "p")
	if len(exp) == 3 && exp[1] == '0' {
		exp = exp[:1] + exp[2:]
	}
	return digits + "p" + exp
}

func TestP10_2_AsTheLibrary(t *testing.T) {
	for _, f := range oracle.Formats() {
		for _, b := range many(f) {
			prints(t, f, b, told(f, b))
			minus := oracle.Minus(f, b)
			prints(t, f, minus, told(f, minus))
		}
	}
}

// many: sizes of all kinds that are finite and not nought.
func many(f api.Format) []uint64 {
	out := oracle.Sizes(f)
	for b := range uint64(3000) {
		out = append(out, b+1, oracle.Infinity(f)-1-b)
	}
	for i := range uint64(3000) {
		out = append(out, i*0x9e3779b97f4a7c15%(oracle.Infinity(f)-1)+1)
	}
	return out
}

func TestP10_2_EachDigit(t *testing.T) {
	for i, digit := range "0123456789abcdef" {
		if i == 0 {
			continue
		}
		at := uint64(i)
		prints(t, double, 0x3ff0000000000000+at<<48, "0x1."+string(digit)+"p+0")
		prints(t, double, 0x3ff0000000000000+at, "0x1.000000000000"+string(digit)+"p+0")
		prints(t, single, 0x3f800000+at<<19, "0x1."+string(digit)+"p+0")
	}
}

func TestP10_3_ReadBack(t *testing.T) {
	for _, f := range oracle.Formats() {
		list := append(many(f), 0, oracle.Infinity(f))
		for _, b := range list {
			for _, b := range []uint64{b, oracle.Minus(f, b)} {
				s, _ := hexfloat.Print(f, b)
				reads(t, f, s, b)
			}
		}
	}
}

func TestErrors(t *testing.T) {
	for _, f := range oracle.NoFormats() {
		for _, s := range []string{"0x1p0", "nan", "inf", "", "x", strings.Repeat("0", 4001)} {
			refuses(t, f, s, api.ErrArg)
		}
		for _, b := range append(oracle.NoPatterns(), 0, 1, quiet(single), quiet(double)) {
			fails(t, f, b, api.ErrArg)
		}
	}
	for _, b := range oracle.NoPatterns() {
		fails(t, single, b, api.ErrForm)
		if _, e := hexfloat.Print(double, b); e != api.OK {
			t.Errorf("Print(64, %x): error %d", b, e)
		}
	}
	fails(t, math.MaxInt, 1<<32, api.ErrArg)
}
