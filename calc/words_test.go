package calc_test

import (
	"strconv"
	"strings"
	"testing"

	"gnomon/api"
	"gnomon/calc"
)

var (
	commands  = [...]string{"drop", "clear", "names", "hex", "dec", "fast", "slow"}
	functions = [...]string{"sin", "cos", "tan", "sinpi", "cospi", "tanpi", "sqrt", "abs", "fma"}
	constants = [...]string{"pi", "inf", "nan"}
)

// No reserved word is a name: none can be given a value or forgotten, and each stands only where its kind can.
func TestP27_2_Reserved(t *testing.T) {
	for _, w := range commands {
		n := len(w)
		alone(t, nil, fault("("+w+")", 1, text), fault("1+"+w, 2, text), fault("x = "+w, 4, text), fault("drop "+w, 5, text), fault("sin("+w+")", 4, text))
		if w != "drop" {
			alone(t, nil, fault(w+" = 1", n+1, text), fault(w+"(1)", n, text), fault(w+" "+w, n+1, text), fault(w+" 1", n+1, text), fault(w+" x", n+1, text), fault(w+" + 1", n+1, text))
		}
	}
	alone(t, []string{"x = 1"}, fault("drop = 1", 5, text), fault("drop(x)", 4, text), fault("drop drop", 5, text), fault("drop", 4, text), fault("drop ", 5, text))
	for _, w := range functions {
		n := len(w)
		alone(t, nil, fault(w, n, text), fault(w+" ", n+1, text), fault(w+" = 1", n+1, text), fault(w+" 1", n+1, text), fault("drop "+w, 5, text), fault("1+"+w, n+2, text), fault("("+w+")", n+1, text), fault(w+" "+w+"(1)", n+1, text), fault(w+"+1", n, text), fault(w+"-1", n, text))
	}
	for _, w := range constants {
		n := len(w)
		alone(t, nil, fault(w+" = 1", n+1, text), fault("drop "+w, 5, text), fault(w+"(1)", n, text), fault(w+" 1", n+1, text), fault(w+" "+w, n+1, text))
	}
}

func TestP27_2_Arguments(t *testing.T) {
	for _, w := range functions {
		wanted := 1
		if w == "fma" {
			wanted = 3
		}
		alone(t, nil, fault(w+"()", len(w)+1, text))
		for given := 1; given < 9; given++ {
			line := w + "(" + strings.TrimSuffix(strings.Repeat("1,", given), ",") + ")"
			if given != wanted {
				alone(t, nil, fault(line, len(line)-1, count), fault("2*"+line+")", len(line)+1, count))
			} else if r := calc.New().Line(line); r.E != api.OK {
				t.Errorf("%q: error %d at %d", line, r.E, r.At)
			}
		}
	}
}

func TestP27_2_Constants(t *testing.T) {
	plays(t, calc.New(), says("pi", "3.141592653589793"), says("inf", "inf"), says("nan", "nan"), says("-inf", "-inf"), says("-nan", "nan"), says("hex", ""), says("pi", "0x1.921fb54442d18p+1"), says("inf", "inf"), says("nan", "nan"))
}

// Every other word that is not too long is a name, however much of it is a reserved one's.
func TestP27_2_Names(t *testing.T) {
	list := []string{"a", "z", "x", "y", "a0", "z9", "aa", "e5", "x1p3", "sinh", "si", "sins", "asin", "pie", "p", "infinity", "in", "nano", "na", "hexa", "he", "decs", "drops", "name", "namess", "cleared", "slower", "faster", "fmas", "fm", "sqr", "sqrt2", "tanpi2", "sinp", "pi0", "func", "if", "go", "true", "nil", "abcdefghijklmnop", "a234567890123456", "sinsinsinsinsins"}
	d := calc.New()
	for i, w := range list {
		value := strconv.Itoa(i + 1)
		plays(t, d, fault(w, 0, named), fault("drop "+w, 5, named), says(w+" = "+value, value), says(w, value), says("-"+w, "-"+value))
	}
	for i, w := range list {
		plays(t, d, says(w, strconv.Itoa(i+1)), says("drop "+w, ""), fault(w, 0, named))
	}
}

func TestP27_2_TooLong(t *testing.T) {
	const longest = "abcdefghijklmnop"
	if len(longest) != api.MaxName {
		t.Fatal("no longest name")
	}
	for _, c := range []string{"a", "q", "z", "0", "9"} {
		w := longest + c
		alone(t, []string{longest + " = 2"}, says(longest, "2"), fault(w, 0, text), fault(w+" = 1", 0, text), fault("drop "+w, 5, text), fault("1+"+w, 2, text), fault("2*("+w+")", 3, text), fault(w+"(1)", 0, text), fault("x = "+w, 4, text), fault("1 "+w, 2, text))
	}
	for _, n := range []int{18, 32, 33, 256, api.MaxLine} {
		alone(t, nil, fault(strings.Repeat("a", n), 0, text))
	}
	alone(t, nil, fault("sinsinsinsinsinsi(1)", 0, text))
	alone(t, nil, fault("abcdefghijklmnop = y", 19, named)) // in front of = it isn't looked up
}

// A name's whole bytes count, the last ones too.
func TestP27_2_NamesAreToldApart(t *testing.T) {
	plays(t, calc.New(), says("abcdefghijklmnop = 1", "1"), says("abcdefghijklmnoq = 2", "2"), says("abcdefghijklmno = 3", "3"), says("bbcdefghijklmnop = 4", "4"), says("a = 5", "5"), says("a0 = 6", "6"), says("a00 = 7", "7"),
		says("abcdefghijklmnop", "1"), says("abcdefghijklmnoq", "2"), says("abcdefghijklmno", "3"), says("bbcdefghijklmnop", "4"), says("a", "5"), says("a0", "6"), says("a00", "7"))
}
