package calc_test

import "testing"

// The line's end is a piece at len(s), whatever blanks stand in front of it.
func TestP27_5_LinesEnd(t *testing.T) {
	for _, blanks := range []string{"", " ", "\t", " \t  "} {
		for _, s := range []string{"1+", "(", "(1", "sin", "sin(", "sin(1", "sin(1,", "fma(1,2", "x =", "x=-", "drop", "-", "1*(2+3", "x = (1"} {
			alone(t, []string{"x = 3"}, fault(s+blanks, len(s+blanks), text), fault(blanks+s, len(s+blanks), text))
		}
	}
}

func TestP27_5_Names(t *testing.T) {
	alone(t, []string{"x = 3"},
		fault("y", 0, named), fault(" y", 1, named), fault("\t\ty ", 2, named), fault("x+y", 2, named), fault("x + y", 4, named), fault("y + x", 0, named), fault("(y)", 1, named), fault("-y", 1, named), fault("sin(y)", 4, named), fault("fma(x,x,y)", 8, named),
		fault("y = y", 4, named), fault("y = y + 1", 4, named), fault("x = y", 4, named), fault("x = x + y", 8, named), fault("y=z", 2, named), fault("drop y", 5, named), fault("drop  y", 6, named), fault("y/0", 0, named), fault("0*y", 2, named))
}

// A name at the beginning is looked up if no = stands behind it: then it is at fault ahead of what can't stand behind it.
func TestP27_5_FirstName(t *testing.T) {
	alone(t, []string{"x = 3"},
		fault("y x", 0, named), fault("y y", 0, named), fault("y 1", 0, named), fault("y #", 0, named), fault("y)", 0, named), fault("y,", 0, named), fault("y(", 0, named), fault("y hex", 0, named), fault("y sin", 0, named), fault("y 2e", 0, named), fault("y + 1 = 2", 0, named), fault("y X", 0, named), fault("y é", 0, named), fault("y 1 = 2", 0, named),
		fault("x x", 2, text), fault("x y", 2, text), fault("x 1", 2, text), fault("x #", 2, text), fault("x)", 1, text), fault("x,", 1, text), fault("x(", 1, text), fault("x hex", 2, text), fault("x sin", 2, text), fault("x 2e", 2, text), fault("x + 1 = 2", 6, text), fault("x X", 2, text),
		fault("y ==", 3, text), fault("y = =", 4, text), fault("y =", 3, text), fault("y = #", 4, text), fault("y = 1 1", 6, text), fault("y=)", 2, text), fault("(y = 1)", 1, named), fault("-y = 1", 1, named))
}

// The first piece at fault tells, whatever stands behind it.
func TestP27_5_Several(t *testing.T) {
	alone(t, []string{"x = 3"},
		fault("y + # + 2e", 0, named), fault("x + # + y", 4, text), fault("# + y", 0, text), fault("2e + y", 0, text), fault("1 + 2e + y", 4, text), fault("1 + y + 2e", 4, named), fault("sin(1,2) + y", 7, count), fault("y + sin(1,2)", 0, named), fault("sin(y,2)", 4, named), fault("sin(1,y)", 6, named), fault("sin(1,2", 7, text), fault("sin(1,2 3)", 8, text), fault("sin(1,2)(", 7, count), fault("sin(1,2)#", 7, count),
		fault("fma(sin(1,2))", 11, count), fault("sin(fma(1,2),3)", 11, count), fault("sin(sin(1),sin(1,2))", 18, count), fault("(sin(1,2)", 8, count), fault("sin(1,2))", 7, count), fault("fma(1)+", 5, count), fault("fma(1", 5, text), fault("1 + ) + y", 4, text), fault("y = sin(1,2) y", 11, count), fault("y = 1 + z = 2", 8, named),
		fault("drop y z", 5, named), fault("drop y #", 5, named), fault("drop x #", 7, text), fault("drop # y", 5, text), fault("drop pi y", 5, text), fault("drop sin", 5, text), fault("drop 2e", 5, text), fault("drop abcdefghijklmnopq", 5, text), fault("hex # y", 4, text), fault("hex y", 4, text), fault("names 2e", 6, text))
}

// A fault anywhere goes ahead of one name too many.
func TestP27_5_P27_7_AheadOfFull(t *testing.T) {
	d := fullDesk(t)
	plays(t, d, fault("w = 1", 0, full), fault("w = 1 +", 7, text), fault("w = y", 4, named), fault("w = sin(1,2)", 11, count), fault("w = #", 4, text), fault("w =", 3, text), fault("w 1", 0, named), fault("  w = 1/0", 2, full), fault("w", 0, named))
}
