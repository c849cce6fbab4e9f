package calc_test

import (
	"slices"
	"strings"
	"testing"

	"gnomon/api"
	"gnomon/calc"
)

// faults: a line at fault of each kind, for a desk on which a, b and x stand, where w stands for nothing.
func faults() []row {
	minuses := strings.Repeat("-", api.MaxDepth)
	return []row{
		fault(strings.Repeat(" ", api.MaxLine+1), 0, api.ErrLong), fault(long("x = 9", api.MaxLine+1), 0, api.ErrLong), fault(long("clear", api.MaxLine+1), 0, api.ErrLong), fault(long("dec", api.MaxLine+1), 0, api.ErrLong),
		fault("x = 9 +", 7, text), fault("x = 9 9", 6, text), fault("x = 2e", 4, text), fault("x = #", 4, text), fault("x = ", 4, text), fault("w = 9)", 5, text), fault("x == 9", 3, text), fault("x = 9 = 9", 6, text), fault("1 +", 3, text),
		fault("drop x x", 7, text), fault("drop x = 1", 7, text), fault("drop x #", 7, text), fault("drop", 4, text), fault("drop pi", 5, text), fault("clear x", 6, text), fault("clear 1", 6, text), fault("clear clear", 6, text), fault("names 1", 6, text),
		fault("dec dec", 4, text), fault("dec 1", 4, text), fault("hex x", 4, text), fault("fast 1", 5, text), fault("slow slow", 5, text), fault("slow = 1", 5, text),
		fault("w", 0, named), fault("x = 9 + w", 8, named), fault("w = w", 4, named), fault("x w", 2, text), fault("w x", 0, named), fault("drop w", 5, named), fault("drop w x", 5, named),
		fault("x = sin(9, 9)", 12, count), fault("w = fma(9)", 9, count), fault("x = "+minuses+"-9", 4+api.MaxDepth, deep), fault("w = "+strings.Repeat("(", 51), 4+api.MaxDepth, deep), fault("x = "+minuses+"sin(9)", 7+api.MaxDepth, deep),
	}
}

// looks: lines that tell all that a desk keeps, and change nothing.
func looks(names ...string) []string {
	out := []string{"names", "1/3", "sin(1e22)"}
	for _, n := range append(names, "w") {
		out = append(out, n, "-"+n, "tan("+n+")")
	}
	return out
}

// sameLooks looks whether two desks keep the same.
func sameLooks(t *testing.T, what string, a, b *calc.Desk, lines []string) {
	t.Helper()
	if !slices.Equal(a.Names(), b.Names()) {
		t.Errorf("%s: the names are %q, want %q", what, a.Names(), b.Names())
	}
	for _, line := range lines {
		if got, want := a.Line(line), b.Line(line); got != want {
			t.Errorf("%s: %q is answered by %v, want %v", what, line, got, want)
		}
	}
}

func TestP27_8_FaultsChangeNothing(t *testing.T) {
	for _, lines := range [][]string{{"a = 1", "b = 2", "x = 3"}, {"x = 3", "hex", "b = 2", "slow", "a = x/7"}, {"slow", "a = 1", "x = -0", "b = nan", "hex", "dec"}} {
		all := desk(t, lines...)
		for _, f := range faults() {
			d, untold := desk(t, lines...), desk(t, lines...)
			plays(t, d, f, f)
			plays(t, all, f)
			sameLooks(t, "behind "+f.line, d, untold, looks("a", "b", "x"))
		}
		sameLooks(t, "behind all of them", all, desk(t, lines...), looks("a", "b", "x"))
	}
}

func TestP27_8_FullDesk(t *testing.T) {
	d := fullDesk(t)
	plays(t, d, fault("w = 9", 0, full), fault("w = n00 + 9", 0, full), fault("n = 9", 0, full))
	sameLooks(t, "behind one name too many", d, fullDesk(t), looks(someNames()...))
}

func TestP27_9_NoDesk(t *testing.T) {
	var none *calc.Desk
	for _, line := range append(looks("x"), "", "x = 1", "hex", "clear", "drop x", "#", "sin(", strings.Repeat("(", 51), strings.Repeat(" ", 2000), "\xff") {
		if got := none.Line(line); got != (calc.Reply{}) {
			t.Errorf("no desk answers %v to %q", got, line)
		}
	}
	if got := none.Names(); len(got) != 0 {
		t.Errorf("no desk has the names %q", got)
	}
}

// A desk that New did not make is like a new one, whatever it is told first.
func TestP27_9_DeskNotMade(t *testing.T) {
	for _, first := range append(looks("x"), "", "x = 1", "hex", "slow", "clear", "drop x", "x = y", "#", "1+2") {
		var zero calc.Desk
		if got := zero.Names(); len(got) != 0 {
			t.Errorf("the names are %q", got)
		}
		fresh := calc.New()
		if got := fresh.Names(); len(got) != 0 {
			t.Errorf("the names of a new desk are %q", got)
		}
		for _, line := range []string{first, "x = 5", first, "x"} {
			if got, want := zero.Line(line), fresh.Line(line); got != want {
				t.Errorf("%q is answered by %v, want %v", line, got, want)
			}
		}
		sameLooks(t, first, &zero, fresh, looks("x"))
	}
	plays(t, &calc.Desk{}, says("x = 1", "1"), says("names", "x"), says("sin(1)", "0.8414709848078965"), says("drop x", ""))
	plays(t, new(calc.Desk), fault("drop x", 5, named), says("clear", ""), says("names", ""), says("1.5", "1.5"))
}

// New is a new desk at each call, without names, printing dec.
func TestP27_9_NewDesks(t *testing.T) {
	first := desk(t, "x = 1", "hex", "slow")
	second := calc.New()
	plays(t, second, says("names", ""), fault("x", 0, named), says("1.5", "1.5"))
	plays(t, first, says("x", "0x1p+0"))
}

func TestP27_9_DesksInTurns(t *testing.T) {
	a, b := calc.New(), calc.New()
	plays(t, a, says("x = 1", "1"))
	plays(t, b, fault("x", 0, named), says("x = 2", "2"), says("hex", ""))
	plays(t, a, says("x", "1"), says("y = 3", "3"), says("slow", ""))
	plays(t, b, says("x", "0x1p+1"), fault("y", 0, named), says("names", "x"), says("clear", ""))
	plays(t, a, says("names", "x y"), says("x", "1"), says("drop x", ""))
	plays(t, b, says("names", ""), says("x = 4", "0x1p+2"))
	plays(t, a, fault("x", 0, named), says("y", "3"), says("hex", ""))
	plays(t, b, says("dec", ""), says("x", "4"))
	plays(t, a, says("y", "0x1.8p+1"))
}
