package calc_test

import (
	"strings"
	"testing"

	"gnomon/api"
	"gnomon/calc"
)

const (
	text  = api.ErrText
	named = api.ErrName
	count = api.ErrCount
	deep  = api.ErrDeep
)

// row is a line and what is asked of its answer.
type row struct {
	line string
	want calc.Reply
}

// says, fault: a row with an answer, one with an error.
func says(line, answer string) row { return row{line, calc.Reply{Text: answer}} }

func fault(line string, at int, e api.Errno) row { return row{line, calc.Reply{At: at, E: e}} }

// plays tells a desk the lines of the rows, in their order.
func plays(t *testing.T, d *calc.Desk, rows ...row) {
	t.Helper()
	for _, r := range rows {
		if got := d.Line(r.line); got != r.want {
			t.Errorf("%.80q of %d bytes is answered by %v, want %v", r.line, len(r.line), got, r.want)
		}
	}
}

// desk: a desk that was told the lines, none of them at fault.
func desk(t *testing.T, lines ...string) *calc.Desk {
	t.Helper()
	d := calc.New()
	for _, line := range lines {
		if r := d.Line(line); r.E != api.OK {
			t.Fatalf("%q: error %d at %d", line, r.E, r.At)
		}
	}
	return d
}

// alone looks at each row on a desk of its own, which was told the lines.
func alone(t *testing.T, lines []string, rows ...row) {
	t.Helper()
	for _, r := range rows {
		plays(t, desk(t, lines...), r)
	}
}

func TestP27_Examples(t *testing.T) {
	plays(t, calc.New(),
		says("1+2*3", "7"), says("x = -(2-5)/2", "1.5"), says("x*x", "2.25"), fault("y", 0, named), fault("x + * 2", 4, text), fault("sin(1, 2)", 8, count),
		fault("sin()", 4, text), says("1/0", "inf"), says("-0", "-0"), says("inf-inf", "nan"), says("cos(0)", "1"), says("sinpi(1/2)", "1"), says("a2 = 0x1.8p1", "3"),
		says("names", "a2 x"), says("drop x", ""), fault("x", 0, named), fault("2e", 0, text), fault("2 x", 2, text), fault("(1", 2, text), fault("1 = 2", 2, text))
}

func TestP27_ExamplesOfTheWhole(t *testing.T) {
	plays(t, calc.New(),
		says("x = 1e22", "1e22"), says("sin(x)", "-0.8522008497671888"), says("hex", ""), says("sin(x)", "-0x1.b453ab76bf397p-1"), says("dec", ""),
		says("0.1+0.2", "0.30000000000000004"), says("tanpi(1/4)", "1"), fault("sin(", 4, text))
}

// long: a text filled up with blanks behind it.
func long(s string, bytes int) string { return s + strings.Repeat(" ", bytes-len(s)) }

func TestP27_5_Long(t *testing.T) {
	sum := "1" + strings.Repeat("+1", 499)
	plays(t, desk(t, "x = 2"),
		says(long("x*3", api.MaxLine), "6"), fault(long("x*3", api.MaxLine+1), 0, api.ErrLong),
		says(long("", api.MaxLine), ""), fault(long("", api.MaxLine+1), 0, api.ErrLong),
		says(sum+" ", "500"), fault(sum+"+1", 0, api.ErrLong), fault(sum+"+", api.MaxLine, text),
		says(strings.Repeat("9", api.MaxLine), "inf"), says("0."+strings.Repeat("0", 400)+strings.Repeat("1", 598), "0"), fault(strings.Repeat("9", api.MaxLine+1), 0, api.ErrLong),
		fault(strings.Repeat("#", api.MaxLine), 0, text), fault(strings.Repeat("#", api.MaxLine+1), 0, api.ErrLong),
		fault(long("x = 1", 5000), 0, api.ErrLong), fault("y"+long("", api.MaxLine-1), 0, named), fault(strings.Repeat("x", api.MaxLine), 0, text),
		fault(strings.Repeat("(", 100000), 0, api.ErrLong), says("x", "2"))
}
