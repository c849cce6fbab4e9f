package decimal_test

import (
	"math"
	"strings"
	"testing"

	"gnomon/api"
	"gnomon/decimal"
	"gnomon/oracle"
)

const (
	single = api.Single
	double = api.Double
)

func reads(t *testing.T, f api.Format, s string, want uint64) {
	t.Helper()
	if got, e := decimal.Parse(f, s); got != want || e != api.OK {
		t.Errorf("Parse(%d, %.70q) of %d bytes = %x, error %d, want %x", f, s, len(s), got, e, want)
	}
}

// both: is the text read, and with the other sign too?
func both(t *testing.T, f api.Format, s string, want uint64) {
	t.Helper()
	reads(t, f, s, want)
	reads(t, f, "-"+s, oracle.Minus(f, want))
}

// refuses: the error, and nothing beside it.
func refuses(t *testing.T, f api.Format, s string, want api.Errno) {
	t.Helper()
	if got, e := decimal.Parse(f, s); got != 0 || e != want {
		t.Errorf("Parse(%d, %.70q) of %d bytes = %x, error %d, want error %d", f, s, len(s), got, e, want)
	}
}

func prints(t *testing.T, f api.Format, b uint64, want string) {
	t.Helper()
	if got, e := decimal.Print(f, b); got != want || e != api.OK {
		t.Errorf("Print(%d, %x) = %q, error %d, want %q", f, b, got, e, want)
	}
}

func tells(t *testing.T, f api.Format, b uint64, n int, want string) {
	t.Helper()
	if got, e := decimal.Digits(f, b, n); got != want || e != api.OK {
		t.Errorf("Digits(%d, %x, %d) = %.70q of %d bytes, error %d, want %.70q of %d", f, b, n, got, len(got), e, want, len(want))
	}
}

func fails(t *testing.T, f api.Format, b uint64, want api.Errno) {
	t.Helper()
	if got, e := decimal.Print(f, b); got != "" || e != want {
		t.Errorf("Print(%d, %x) = %q, error %d, want error %d", f, b, got, e, want)
	}
}

func withholds(t *testing.T, f api.Format, b uint64, n int, want api.Errno) {
	t.Helper()
	if got, e := decimal.Digits(f, b, n); got != "" || e != want {
		t.Errorf("Digits(%d, %x, %d) = %.70q, error %d, want error %d", f, b, n, got, e, want)
	}
}

func quiet(f api.Format) uint64 {
	if f == single {
		return 0x7fc00001
	}
	return 0x7ff8000000000001
}

// many: sizes of all kinds that are finite and not nought.
func many(f api.Format, each int) []uint64 {
	out := oracle.Sizes(f)
	for b := range uint64(each) {
		out = append(out, b+1, oracle.Infinity(f)-1-b)
	}
	for i := range uint64(each) {
		out = append(out, i*0x9e3779b97f4a7c15%(oracle.Infinity(f)-1)+1)
	}
	return out
}

func TestExamplesRead(t *testing.T) {
	for _, c := range []struct {
		f    api.Format
		s    string
		want uint64
	}{
		{double, "1", 0x3ff0000000000000},
		{double, "-0", 0x8000000000000000},
		{double, "+.5e1", 0x4014000000000000},
		{double, "5.", 0x4014000000000000},
		{double, "0.1", 0x3fb999999999999a},
		{single, "0.1", 0x3dcccccd},
		{double, "9007199254740993", 0x4340000000000000},
		{double, "9007199254740993.0000000000000000000000000001", 0x4340000000000001},
		{double, "1e309", 0x7ff0000000000000},
		{double, "1e400", 0x7ff0000000000000},
		{single, "1e400", 0x7f800000},
		{double, "1.7976931348623157e308", 0x7fefffffffffffff},
		{double, "-1e-400", 0x8000000000000000},
		{single, "-1e-400", 0x80000000},
		{double, "5e-324", 1},
		{double, "2e-324", 0},
		{double, "0e99999999999999999999", 0},
		{double, "1e99999999999999999999", 0x7ff0000000000000},
		{double, "1e-00000000000000000000000001", 0x3fb999999999999a},
	} {
		reads(t, c.f, c.s, c.want)
	}
	for _, s := range []string{".", "", "1e", "1 ", "Inf", "+nan", "0x1"} {
		refuses(t, double, s, api.ErrText)
	}
}

func TestExamplesPrinted(t *testing.T) {
	for _, c := range []struct {
		f    api.Format
		b    uint64
		want string
	}{
		{double, 0x3fb999999999999a, "0.1"},
		{double, 0x4014000000000000, "5"},
		{double, 0xc05e000000000000, "-120"},
		{double, 0x3ff8000000000000, "1.5"},
		{double, 1, "5e-324"},
		{double, 0x7fefffffffffffff, "1.7976931348623157e308"},
		{single, 0x3dcccccd, "0.1"},
		{double, 0x8000000000000000, "-0"},
		{double, 0xfff0000000000000, "-inf"},
		{double, 0x7ff8000000000000, "nan"},
		{double, oracle.Bits(double, 1e17), "1e17"},
		{double, oracle.Bits(double, 1e16), "10000000000000000"},
		{double, oracle.Bits(double, 1e-4), "0.0001"},
		{double, oracle.Bits(double, 1e-5), "1e-5"},
		{double, oracle.Bits(double, 12.25), "12.25"},
		{double, oracle.Bits(double, 1e5), "100000"},
		{double, oracle.Bits(double, 1e18), "1e18"},
		{double, oracle.Bits(double, 1.5e-5), "1.5e-5"},
	} {
		prints(t, c.f, c.b, c.want)
	}
	fails(t, single, 0x100000000, api.ErrForm)
}

func TestExamplesOfDigits(t *testing.T) {
	for _, c := range []struct {
		b    uint64
		n    int
		want string
	}{
		{0x3fb999999999999a, 20, "1.0000000000000000555e-1"},
		{0x3ff0000000000000, 1, "1e0"},
		{0x3ff0000000000000, 3, "1.00e0"},
		{0x4023ffffffffffff, 3, "1.00e1"},
		{0x8000000000000000, 3, "-0.00e0"},
		{oracle.Bits(double, 2.5), 1, "2e0"},
		{oracle.Bits(double, 3.5), 1, "4e0"},
	} {
		tells(t, double, c.b, c.n, c.want)
	}
	withholds(t, double, 0x3ff0000000000000, 0, api.ErrArg)
}

// The least number of the errors that apply is answered, whatever else is wrong.
func TestErrors(t *testing.T) {
	counts := []int{0, -1, api.MaxPlaces + 1, 1 << 32, math.MaxInt, math.MinInt}
	for _, f := range oracle.NoFormats() {
		for _, s := range []string{"1", "nan", "inf", "", "x", strings.Repeat("0", 4001)} {
			refuses(t, f, s, api.ErrArg)
		}
		for _, b := range append(oracle.NoPatterns(), 0, 1, quiet(single), quiet(double)) {
			fails(t, f, b, api.ErrArg)
			for _, n := range append(counts, 1, 800) {
				withholds(t, f, b, n, api.ErrArg)
			}
		}
	}
	for _, b := range oracle.NoPatterns() {
		fails(t, single, b, api.ErrForm)
		withholds(t, single, b, 1, api.ErrForm)
		withholds(t, single, b, api.MaxPlaces, api.ErrForm)
		for _, n := range counts {
			withholds(t, single, b, n, api.ErrArg)
		}
		if _, e := decimal.Print(double, b); e != api.OK {
			t.Errorf("Print(64, %x): error %d", b, e)
		}
	}
	for _, f := range oracle.Formats() {
		end := oracle.Infinity(f)
		for _, b := range append(oracle.NaNs(f), end, oracle.Minus(f, end)) {
			withholds(t, f, b, 1, api.ErrClass)
			withholds(t, f, b, api.MaxPlaces, api.ErrClass)
			for _, n := range counts {
				withholds(t, f, b, n, api.ErrArg)
			}
		}
		for _, n := range counts {
			withholds(t, f, 0, n, api.ErrArg)
			withholds(t, f, 1, n, api.ErrArg)
		}
	}
}
