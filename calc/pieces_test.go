package calc_test

import (
	"strings"
	"testing"
)

// givenNames: names that could be taken for parts of numbers.
func givenNames() []string { return []string{"x = 7", "e = 3", "p = 4", "x1 = 5", "a = 6", "e5 = 8"} }

func TestP27_1_Numbers(t *testing.T) {
	alone(t, givenNames(),
		says("1e5", "100000"), says("1e+5", "100000"), says("1e-1", "0.1"), says("1.e1", "10"), says(".5", "0.5"), says("5.", "5"), says("0005", "5"), says("00.50e-00", "0.5"),
		says("1e5-1", "99999"), says("1e5+1", "100001"), says("1e-1-1", "-0.9"), says("1e+5+.5", "100000.5"), says("1-.5", "0.5"), says("5.-1", "4"), says("9/0003", "3"),
		says("0x1p3", "8"), says("0x1p+3", "8"), says("0x1p-3", "0.125"), says("0x.8p0", "0.5"), says("0x8.p-3", "1"), says("0xffp0", "255"), says("0x1ep0", "30"), says("0xabcdefp0", "11259375"),
		says("0x0123456789p0", "4886718345"), says("0x1p3+1", "9"), says("0x1p+3-1", "7"), says("0x1p-3-1", "-0.875"), says("0x1p00000000000000000000001", "2"), says("0x0p0", "0"))
}

func TestP27_1_NoNumbers(t *testing.T) {
	for _, s := range []string{
		"2e", "1e+", "1e-", "1e+-5", "1e--5", "1e++5", "1e +5", "1e 5", "1e- 5", "2ex", "1ee", "1ee5", "1e.5", "1.2.3", "1..2", ".", "..", "...", ".5.", ". 5", ".x", ".e5", ".e", "..e5", "5.5.e1",
		"0x", "0x.p", "0x.", "0x.p0", "0xp0", "0xp", "0x1", "0x1e", "0x1e+1", "0x1e5", "0x1p", "0x1p-", "0x1p+", "0x1p+-1", "0x1p -3", "0x1pp1", "0x1p.5", "0x1.8.8p0", "0x..8p0", "0xg", "0x 1p0", "0x1P0", "0xAp0", "0xa.F0p0", "0x1 p0", "0xe", "0x-1p0", "0x1x1p0",
	} {
		alone(t, givenNames(), fault(s, 0, text), fault("1+"+s, 2, text), fault("sin("+s+")", 4, text), fault("x = "+s, 4, text), fault("y "+s, 0, named), fault("y + "+s, 0, named))
	}
}

// Where a piece ends is told by the place of the one that can't stand behind it.
func TestP27_1_SideBySide(t *testing.T) {
	alone(t, givenNames(),
		fault("2x", 1, text), fault("2 x", 2, text), fault("2x1", 1, text), fault("2e5x", 3, text), fault("2e5e5", 3, text), fault("1 e5", 2, text), fault("1 e", 2, text), fault("1e5.5", 3, text), fault("1e5 .5", 4, text),
		fault("2sin(1)", 1, text), fault("2pi", 1, text), fault("2.pi", 2, text), fault("1 2", 2, text), fault("1\t2", 2, text), fault("1 .5", 2, text), fault("1.5 .5", 4, text), fault("1.x", 2, text),
		fault("0x1p3p", 5, text), fault("0x1p3e5", 5, text), fault("0x1p3f", 5, text), fault("0x1p3.", 5, text), fault("0x1p3 3", 6, text), fault("0x1p3x1", 5, text),
		fault("0X1p0", 1, text), fault("00x1p0", 2, text), fault("0 x1", 2, text), fault("1x1", 1, text), fault("10x1p0", 2, text), fault("1E5", 1, text), fault("1_0", 1, text), fault("1p5", 1, text), fault("1a", 1, text),
		says("x1", "5"), fault("x 1", 2, text), fault("x1 1", 3, text), fault("x.5", 1, text), fault("x1.5", 2, text), fault("x e", 2, text), fault("x\te", 2, text), fault("xX", 1, text), fault("x_1", 1, text),
		fault("xe", 0, named), fault("x1e", 0, named), fault("x10", 0, named), fault("x01", 0, named), fault("sinx", 0, named), fault("sin1", 0, named), fault("pi2", 0, named), fault("drop1", 0, named), fault("hexdec", 0, named),
		fault("s in(1)", 0, named), fault("si n(1)", 0, named), fault("sin pi(1)", 4, text), fault("dr op x", 0, named))
}

func TestP27_1_Blanks(t *testing.T) {
	alone(t, givenNames(),
		says("1+2", "3"), says(" \t1\t+ \t2 ", "3"), says("x=9", "9"), says("x\t=\t9", "9"), says("  x  =  9\t", "9"), says("sin(0)", "0"), says("sin (0)", "0"), says("\tsin\t( 0\t)", "0"), says("fma(1,2,3)", "5"), says(" fma ( 1 , 2\t,\t3 ) ", "5"),
		says("- 1", "-1"), says("-\t-1", "1"), says("x*x1", "35"), says("x * x1", "35"), says(" drop\tx ", ""), says("\thex\t", ""), says("  names", "a e e5 p x x1"), says("", ""), says(" ", ""), says("\t", ""), says(" \t \t\t  ", ""))
	for _, gap := range []string{"\n", "\r", "\v", "\f", "\x00", "\u00a0", "\u2003", "\ufeff", "\\t"} {
		alone(t, nil, fault(gap, 0, text), fault("1"+gap, 1, text), fault(gap+"1", 0, text), fault("1 "+gap+" + 2", 2, text), fault("hex"+gap, 3, text))
	}
}

// ofByte: what one byte is answered by a desk without names, and the same behind a factor.
func ofByte(c byte) (first, behind row) {
	s := string([]byte{c})
	switch {
	case strings.Contains(" \t", s):
		return says(s, ""), says("(1)"+s, "1")
	case strings.Contains("0123456789", s):
		return says(s, s), fault("(1)"+s, 3, text)
	case strings.Contains("abcdefghijklmnopqrstuvwxyz", s):
		return fault(s, 0, named), fault("(1)"+s, 3, text)
	case strings.Contains("-", s):
		return fault(s, 1, text), fault("(1)"+s, 4, text)
	case strings.Contains("(", s):
		return fault(s, 1, text), fault("(1)"+s, 3, text)
	case strings.Contains("+*/", s):
		return fault(s, 0, text), fault("(1)"+s, 4, text)
	}
	return fault(s, 0, text), fault("(1)"+s, 3, text)
}

func TestP27_1_EveryByte(t *testing.T) {
	for i := range 256 {
		first, behind := ofByte(byte(i))
		alone(t, nil, first, behind)
		s := first.line
		if first.want.E == text && first.want.At == 0 { // it can begin nothing: so neither a factor nor what drop forgets
			alone(t, []string{"x = 1"}, fault("1+"+s, 2, text), fault("("+s+")", 1, text), fault("x = "+s, 4, text), fault("drop "+s, 5, text), fault("-"+s, 1, text))
		}
		if !strings.Contains(" \t0123456789abcdefghijklmnopqrstuvwxyz", s) {
			alone(t, nil, fault("hex"+s, 3, text), fault("clear "+s+"1", 6, text))
		}
	}
}

// Bytes beyond ASCII are pieces one by one, whatever letters they make together, and so are halves of such letters.
func TestP27_1_BeyondASCII(t *testing.T) {
	for _, s := range []string{"é", "π", "２", "ａ", "√2", "\xff", "\xc3", "\x80x", "−1", "·", "\xe2\x88"} {
		alone(t, []string{"x = 1"}, fault(s, 0, text), fault("x"+s, 1, text), fault("1"+s+"1", 1, text), fault("sin("+s+")", 4, text), fault("drop "+s, 5, text), fault("x = 2 "+s, 6, text))
	}
}
