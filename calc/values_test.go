package calc_test

import (
	"strings"
	"testing"

	"gnomon/api"
	"gnomon/calc"
	"gnomon/decimal"
	"gnomon/hexfloat"
	"gnomon/oracle"
	"gnomon/soft"
	"gnomon/trig"
)

const quiet = 0x7ff8000000000001

// written: a line's text of a pattern's number.
func written(t *testing.T, b uint64) string {
	t.Helper()
	s, e := hexfloat.Print(api.Double, b)
	if e != api.OK {
		t.Fatalf("%x has no text: error %d", b, e)
	}
	return s
}

// shown: a pattern as a desk prints it that was told hex, or was not.
func shown(t *testing.T, b uint64, hex bool) string {
	t.Helper()
	if hex {
		return written(t, b)
	}
	s, e := decimal.Print(api.Double, b)
	if e != api.OK {
		t.Fatalf("%x has no text: error %d", b, e)
	}
	return s
}

// comesTo looks whether an expression's value is the pattern, in both kinds of print.
func comesTo(t *testing.T, d *calc.Desk, line string, want uint64, e api.Errno) {
	t.Helper()
	if e != api.OK {
		t.Fatalf("%q: error %d of the layer below", line, e)
	}
	plays(t, d, says("hex", ""), says(line, shown(t, want, true)), says("dec", ""), says(line, shown(t, want, false)))
}

// values: patterns of every class and both signs: noughts, subnormal numbers, the greatest ones, infinities, a NaN.
func values() []uint64 {
	end := oracle.Infinity(api.Double)
	out := []uint64{end, oracle.Minus(api.Double, end), quiet}
	for i, b := range oracle.Finite(api.Double) {
		if i < 62 || i%8 < 2 { // the edges, and a fourth of the others
			out = append(out, b)
		}
	}
	return out
}

// few: fewer of them, of every class too.
func few() []uint64 {
	sizes := []uint64{0, 1, 1<<52 - 1, 1 << 52, 0x3fefffffffffffff, 0x3ff0000000000000, 0x3ff0000000000001, 0x4008000000000000, 0x400921fb54442d18, 0x7fefffffffffffff, 0x7ff0000000000000}
	out := []uint64{quiet}
	for _, b := range sizes {
		out = append(out, b, oracle.Minus(api.Double, b))
	}
	return out
}

// reckons looks at the four operations of two patterns.
func reckons(t *testing.T, d *calc.Desk, a, b uint64) {
	t.Helper()
	plays(t, d, says("a = "+written(t, a), shown(t, a, false)), says("b = "+written(t, b), shown(t, b, false)))
	for _, c := range []struct {
		mark string
		call func(api.Format, uint64, uint64) (uint64, api.Errno)
	}{{"+", soft.Add}, {"-", soft.Sub}, {"*", soft.Mul}, {"/", soft.Div}} {
		want, e := c.call(api.Double, a, b)
		comesTo(t, d, "a"+c.mark+"b", want, e)
	}
}

func TestP27_6_Operations(t *testing.T) {
	t.Parallel()
	d := calc.New()
	for _, a := range values() {
		for _, b := range few() {
			reckons(t, d, a, b)
			reckons(t, d, b, a)
		}
	}
}

// roads: the commands that choose them, and their Libs.
func roads(t *testing.T) map[string]*trig.Lib {
	t.Helper()
	fast, e := trig.New(trig.Fast)
	slow, e2 := trig.New(trig.Slow)
	if e != api.OK || e2 != api.OK {
		t.Fatal("no road")
	}
	return map[string]*trig.Lib{"fast": fast, "slow": slow}
}

func TestP27_6_Functions(t *testing.T) {
	t.Parallel()
	for road, lib := range roads(t) {
		d := desk(t, road)
		for _, b := range values() {
			d.Line("x = " + written(t, b))
			for word, call := range map[string]func(uint64) (uint64, bool){"sin": lib.Sin, "cos": lib.Cos, "tan": lib.Tan} {
				want, ok := call(b)
				if !ok {
					t.Fatalf("%s of %x is not certain", word, b)
				}
				comesTo(t, d, word+"(x)", want, api.OK)
			}
			for word, fn := range map[string]api.Fn{"sinpi": api.SinPi, "cospi": api.CosPi, "tanpi": api.TanPi} {
				want, ok, e := trig.Value(api.Double, fn, b)
				if !ok {
					t.Fatalf("%s of %x is not certain", word, b)
				}
				comesTo(t, d, word+"(x)", want, e)
			}
			for word, call := range map[string]func(api.Format, uint64) (uint64, api.Errno){"sqrt(x)": soft.Sqrt, "abs(x)": soft.Abs, "-x": soft.Neg, "-(x)": soft.Neg} {
				want, e := call(api.Double, b)
				comesTo(t, d, word, want, e)
			}
			comesTo(t, d, "x", b, api.OK)
		}
	}
}

func TestP27_6_Fma(t *testing.T) {
	t.Parallel()
	d := calc.New()
	for _, a := range few() {
		for _, b := range few() {
			for _, c := range few() {
				want, e := soft.Fma(api.Double, a, b, c)
				line := "fma(" + written(t, a) + "," + written(t, b) + "," + written(t, c) + ")"
				if e != api.OK {
					t.Fatalf("%q: error %d of the layer below", line, e)
				}
				plays(t, d, says(line, shown(t, want, false)))
			}
		}
	}
	// Rounded once: of the product and sum by themselves nothing would be left.
	plays(t, d, says("fma(1+0x1p-52,1-0x1p-52,-1)", "-4.930380657631324e-32"), says("(1+0x1p-52)*(1-0x1p-52)-1", "0"), says("fma(2,3,4)", "10"), says("fma(4,3,2)", "14"))
}

func TestP27_6_Numbers(t *testing.T) {
	d := calc.New()
	for _, s := range []string{"0", "1", "0.1", "00012.500", "9007199254740993", "9007199254740993.0000000000000000000000000001", "1e309", "1.7976931348623157e308", "1.7976931348623159e308", "5e-324", "2e-324", "3e-324", "0e99999999999999999999", "1e99999999999999999999", "1e-99999999999999999999", "1e-00000000000000000000000001", "4.9e-324", "2.2250738585072011e-308", ".5e1", "5.e0", strings.Repeat("1", 900), "0." + strings.Repeat("0", 300) + strings.Repeat("7", 690)} {
		want, e := decimal.Parse(api.Double, s)
		comesTo(t, d, s, want, e)
		comesTo(t, d, "-"+s, oracle.Minus(api.Double, want), e)
	}
	for _, s := range []string{"0x0p0", "0x1p0", "0x.8p1", "0x10p-4", "0x1.p0", "0x0001.000p00", "0x1.00000000000008p0", "0x1.00000000000018p0", "0x1.000000000000080000000001p0", "0x1p1024", "0x1.fffffffffffff7p1023", "0x1.fffffffffffff8p1023", "0x1p-1074", "0x1p-1075", "0x1.8p-1075", "0x1p99999999999999999999", "0x0p99999999999999999999", "0xdeadbeefp+10", "0x" + strings.Repeat("a", 900) + "p-3000"} {
		want, e := hexfloat.Parse(api.Double, s)
		comesTo(t, d, s, want, e)
		comesTo(t, d, "-"+s, oracle.Minus(api.Double, want), e)
	}
}

func TestP27_6_Constants(t *testing.T) {
	d := calc.New()
	for word, want := range map[string]uint64{"pi": 0x400921fb54442d18, "inf": 0x7ff0000000000000, "nan": quiet} {
		comesTo(t, d, word, want, api.OK)
	}
	minus, e := soft.Neg(api.Double, quiet)
	comesTo(t, d, "-nan", minus, e)
	plays(t, d, says("sin(pi)", "1.2246467991473532e-16"), says("sinpi(1)", "0"), says("cos(inf)", "nan"), says("tanpi(-1/2)", "-inf"), says("inf*0", "nan"), says("nan+1", "nan"), says("sqrt(-0)", "-0"), says("abs(-inf)", "inf"))
}
