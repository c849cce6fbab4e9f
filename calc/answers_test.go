package calc_test

import (
	"fmt"
	"slices"
	"strings"
	"testing"

	"gnomon/api"
	"gnomon/calc"
)

const full = api.ErrFull

// someNames: as many names as there is room for, in the order of their bytes.
func someNames() []string {
	var out []string
	for i := range api.MaxNames {
		out = append(out, fmt.Sprintf("n%02d", i))
	}
	return out
}

func fullDesk(t *testing.T) *calc.Desk {
	t.Helper()
	d := calc.New()
	for i, n := range someNames() {
		plays(t, d, says(fmt.Sprintf("%s = %d", n, i), fmt.Sprint(i)))
	}
	return d
}

func TestP27_7_GivenNames(t *testing.T) {
	plays(t, calc.New(),
		says("x = 2", "2"), says("x", "2"), says("x = x", "2"), says("x = x*x", "4"), says("x = x*x + x", "20"), says("x", "20"), says("y = x", "20"), says("x = -x", "-20"), says("y", "20"), says("x = y - x", "40"), says("x = (x)", "40"), says("x = sqrt(x + 9)", "7"),
		says("x = 1/0", "inf"), says("x = x - x", "nan"), says("x", "nan"), says("x = -0", "-0"), says("x", "-0"), says("x = 1e400", "inf"), says("x = 1e-400", "0"), says("x = 5e-324", "5e-324"), says("x/2", "0"), says("names", "x y"))
}

func TestP27_7_Printing(t *testing.T) {
	plays(t, desk(t, "x = 1.5"),
		says("x", "1.5"), says("hex", ""), says("x", "0x1.8p+0"), says("hex", ""), says("x", "0x1.8p+0"), says("y = 10", "0x1.4p+3"), says("names", "x y"), says("-0", "-0x0p+0"), says("0", "0x0p+0"), says("1/0", "inf"), says("-1/0", "-inf"), says("nan", "nan"), says("5e-324", "0x1p-1074"), says("", ""),
		fault("dec 1", 4, text), says("x", "0x1.8p+0"), says("dec", ""), says("x", "1.5"), says("dec", ""), says("y", "10"), fault("hex 1", 4, text), says("y", "10"), says("0x1.999999999999ap-4", "0.1"), says("clear", ""), says("1e17", "1e17"), says("1e16", "10000000000000000"))
	plays(t, desk(t, "hex", "x = 3", "clear"), says("1", "0x1p+0"), fault("drop x", 5, named), says("1", "0x1p+0"))
}

func TestP27_7_Full(t *testing.T) {
	d := fullDesk(t)
	plays(t, d,
		says("names", strings.Join(someNames(), " ")), fault("w = 1", 0, full), fault(" w=1", 1, full), fault("\t  w = n00", 3, full), fault("w", 0, named), says("n00 = 7", "7"), says("n63 = n00", "7"), says("n00", "7"), fault("n = 1", 0, full), fault("n000 = 1", 0, full), fault("n64 = n63", 0, full),
		says("drop n10", ""), fault("n10", 0, named), says("w = n63", "7"), says("w", "7"), fault("n10 = 1", 0, full), says("drop w", ""), says("n10 = 10", "10"), fault("w = 1", 0, full), says("clear", ""), says("w = 1", "1"), says("names", "w"))
}

// The names come in the order of their bytes: digits ahead of letters, a name ahead of those that it begins.
func TestP27_7_P27_9_NamesInOrder(t *testing.T) {
	sorted := []string{"a", "a0", "a00", "a0a", "a1", "a10", "a2", "a9", "aa", "aa0", "ab", "abcdefghijklmno", "abcdefghijklmnop", "abcdefghijklmnoq", "b", "b0", "ba", "z", "z0", "zz", "zzzzzzzzzzzzzzz", "zzzzzzzzzzzzzzzz"}
	for step := range len(sorted) {
		d := calc.New()
		var standing []string
		for i := range sorted { // another order each time; with some steps not all of them come
			n := sorted[(i*(step+1)+step)%len(sorted)]
			plays(t, d, says(n+" = 1", "1"))
			if !slices.Contains(standing, n) {
				standing = append(standing, n)
			}
			slices.Sort(standing)
			plays(t, d, says("names", strings.Join(standing, " ")))
			if got := d.Names(); !slices.Equal(got, standing) {
				t.Fatalf("the names are %q, want %q", got, standing)
			}
		}
	}
}

func TestP27_7_DropAndClear(t *testing.T) {
	d := desk(t, "a = 1", "b = 2", "c = 3", "hex")
	plays(t, d, says("drop b", ""), says("names", "a c"), fault("b", 0, named), fault("drop b", 5, named), says("a", "0x1p+0"), says("c", "0x1.8p+1"), says("b = 5", "0x1.4p+2"), says("names", "a b c"), says("drop a", ""), says("drop c", ""), says("drop b", ""), says("names", ""), fault("drop a", 5, named))
	plays(t, d, says("clear", ""), says("a = 4", "0x1p+2"), says("b = a", "0x1p+2"), says("clear", ""), says("names", ""), fault("a", 0, named), fault("b", 0, named), says("clear", ""), says("1", "0x1p+0"), says("b = 1", "0x1p+0"), says("names", "b"))
	if got := d.Names(); !slices.Equal(got, []string{"b"}) {
		t.Errorf("the names are %q", got)
	}
}

func TestP27_9_NamesAreNewMemory(t *testing.T) {
	d := desk(t, "a = 1", "b = 2", "c = 3")
	first, second := d.Names(), d.Names()
	whole := first[:cap(first)]
	for i := range whole {
		whole[i] = "spoilt"
	}
	want := []string{"a", "b", "c"}
	if !slices.Equal(second, want) || !slices.Equal(d.Names(), want) {
		t.Errorf("a list of names shares memory with another")
	}
	plays(t, d, says("names", "a b c"), says("b", "2"))
	d.Line("b0 = 1")
	if !slices.Equal(second, want) {
		t.Errorf("a list of names was changed behind the call")
	}
}
