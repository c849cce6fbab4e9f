package calc_test

import (
	"strings"
	"testing"

	"gnomon/calc"
)

func TestP27_3_EachForm(t *testing.T) {
	plays(t, calc.New(),
		says("", ""), says("   ", ""), says("hex", ""), says("dec", ""), says("slow", ""), says("fast", ""), says("names", ""), says("clear", ""),
		says("x = 1", "1"), says("y = x", "1"), says("x", "1"), says("names", "x y"), says("drop x", ""), says("names", "y"), says("(1)", "1"), says("-1", "-1"), says("clear", ""), says("names", ""))
}

// Which operations go ahead of which, and in what order they go.
func TestP27_3_Order(t *testing.T) {
	plays(t, desk(t, "x = 3", "y = -2"),
		says("1+2*3", "7"), says("1*2+3", "5"), says("2*3-4*5", "-14"), says("2-3*4+5", "-5"), says("8-4/2", "6"), says("8/4-2", "0"), says("1+8/4*2-3", "2"),
		says("7-2-1", "4"), says("7-2+1", "6"), says("7+2-1", "8"), says("7-(2-1)", "6"), says("8/2/2", "2"), says("8/2*2", "8"), says("8*2/4", "4"), says("8/(2*2)", "2"), says("2/8*4/2", "0.5"), says("100-10-1-0.5", "88.5"), says("64/4/2/8", "1"),
		says("2--3", "5"), says("2+-3", "-1"), says("2*-3", "-6"), says("6/-3", "-2"), says("-2*-2", "4"), says("-2-2", "-4"), says("-2+3", "1"), says("- 2 - - 2", "0"), says("2---2", "0"), says("2----2", "4"), says("-(2+3)", "-5"), says("-(2)*3", "-6"), says("-2*3+10", "4"),
		says("-0*1", "-0"), says("-0+0", "0"), says("-(0+0)", "-0"), says("0*-1", "-0"), says("-1/0", "-inf"), says("-x", "-3"), says("--x", "3"), says("-x*y", "6"), says("-x-y", "-1"), says("x--y", "1"), says("-sqrt(4)+5", "3"), says("-abs(-4)*2", "-8"),
		says("(1+2)*3", "9"), says("3*(1+2)", "9"), says("((((7))))", "7"), says("(1)+(2)", "3"), says("(1+2)*(3+4)", "21"), says("((1+2)*(3+4))/3", "7"), says("-((-1))", "1"), says("(-1)-(-1)", "0"), says("2*(3-(4-(5-6)))", "-4"),
		says("sqrt(9)*2", "6"), says("2*sqrt(9)", "6"), says("sqrt(4+5)", "3"), says("sqrt(sqrt(16))", "2"), says("abs(1-2)-abs(2-4)", "-1"), says("fma(1+1,3*4,-5)", "19"), says("fma(fma(1,2,3),4,fma(5,6,7))", "57"), says("fma(2,3,4)*2", "20"), says("abs((-3))", "3"), says("fma((1),((2)),-(3))", "-1"))
}

// A difference that is rounded tells in which order it went.
func TestP27_3_LeftToRight(t *testing.T) {
	plays(t, calc.New(),
		says("1e16+1-1e16", "0"), says("1e16+(1-1e16)", "0"), says("1-1e16+1e16", "0"), says("1e16-1e16+1", "1"), says("1e308*10/10", "inf"), says("1e308/10*10", "1e308"), says("1e308*(10/10)", "1e308"), says("1e-320/1e10*1e10", "0"),
		says("1/3*3", "1"), says("1/49*49", "0.9999999999999999"), says("49*(1/49)", "0.9999999999999999"), says("49*1/49", "1"), says("0.1+0.2+0.3", "0.6000000000000001"), says("0.1+(0.2+0.3)", "0.6"), says("0.3-0.2-0.1", "-2.7755575615628914e-17"))
}

func TestP27_3_NoForms(t *testing.T) {
	alone(t, []string{"x = 3"},
		fault("+1", 0, text), fault("*1", 0, text), fault("/1", 0, text), fault(")", 0, text), fault(",", 0, text), fault("=", 0, text), fault("= 1", 0, text), fault("+", 0, text), fault("-", 1, text), fault("(", 1, text),
		fault("1+", 2, text), fault("1-", 2, text), fault("1*", 2, text), fault("1/", 2, text), fault("1 + ", 4, text), fault("1-- ", 4, text), fault("1++1", 2, text), fault("1**1", 2, text), fault("1*/1", 2, text), fault("1-+1", 2, text), fault("-+1", 1, text), fault("-*1", 1, text), fault("1*+1", 2, text),
		fault("(", 1, text), fault("((", 2, text), fault("()", 1, text), fault("(1", 2, text), fault("((1)", 4, text), fault("(1))", 3, text), fault("1)", 1, text), fault("(1+)", 3, text), fault("(+1)", 1, text), fault("(1)(2)", 3, text), fault("(1)2", 3, text), fault("2(1)", 1, text), fault("x(1)", 1, text), fault("(1)x", 3, text), fault("-)", 1, text), fault("(-)", 2, text),
		fault("1,2", 1, text), fault("(1,2)", 2, text), fault("x,x", 1, text), fault("sin((1,2))", 6, text), fault("sin(1,)", 6, text), fault("sin(,1)", 4, text), fault("sin(1,,2)", 6, text), fault("sin(1", 5, text), fault("sin(1,2", 7, text), fault("sin(1 2)", 6, text), fault("sin(1))", 6, text), fault("sin(1)2", 6, text), fault("sin(1)(2)", 6, text), fault("fma(1,2,3", 9, text), fault("fma(1,2,3),4", 10, text), fault("-,1", 1, text), fault("sin(-,1)", 5, text), fault("fma(1,(2,3))", 8, text),
		fault("1 = 2", 2, text), fault("x + 1 = 2", 6, text), fault("(x) = 1", 4, text), fault("(x = 1)", 3, text), fault("-x = 1", 3, text), fault("x == 1", 3, text), fault("x = = 1", 4, text), fault("x = 1 = 2", 6, text), fault("x = x = 2", 6, text), fault("sin(x=1)", 5, text), fault("x = (x = 1)", 7, text), fault("x =", 3, text), fault("x = ", 4, text), fault("x = +1", 4, text), fault("x = hex", 4, text), fault("x = drop x", 4, text), fault("1 =", 2, text), fault("x x = 1", 2, text),
		fault("drop x y", 7, text), fault("drop x x", 7, text), fault("drop x = 1", 7, text), fault("drop x + 1", 7, text), fault("drop 1", 5, text), fault("drop (x)", 5, text), fault("drop -x", 5, text), fault("drop =", 5, text), fault("x drop", 2, text), fault("1 hex", 2, text), fault("hex x = 1", 4, text), fault("names names", 6, text), fault("hex dec", 4, text), fault("hex,dec", 3, text))
}

// A line of nothing but many pieces of one kind.
func TestP27_3_Many(t *testing.T) {
	alone(t, []string{"x = 1"},
		says(strings.Repeat("x+", 499)+"x", "500"), says(strings.Repeat("x-", 499)+"x", "-498"), says(strings.Repeat("2*", 400)+"1", "2.5822498780869086e120"), says("1"+strings.Repeat("/2", 400), "3.8725919148493183e-121"),
		says(strings.Repeat("(x)+", 199)+"1", "200"), says(strings.Repeat("-1-", 333)+"0", "331"), says("2"+strings.Repeat("--1", 300), "302"), fault("sin("+strings.Repeat("1,", 400)+"1)", 805, count), fault("fma("+strings.Repeat("1,", 400), 804, text))
}
