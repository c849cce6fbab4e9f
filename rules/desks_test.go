package rules

import (
	"strings"
	"testing"

	"gnomon/api"
	"gnomon/calc"
	"gnomon/nat"
)

// replied: a reply's text, and its place where there is no error: that must be 0 then.
func replied(r calc.Reply) ([]limbs, api.Errno) {
	out, e := letters(r.Text, r.E)
	if e == api.OK {
		out = append(out, nat.Word(uint64(r.At)))
	}
	return out, e
}

// someLines: lines of each form and with each fault but those of a full desk and of an answer that is not certain.
func someLines() []string {
	return []string{
		"", " ", "1", "-0", "1/3", "x", "y = 2", "x = x + 1", "x = z", "names", "hex", "dec", "fast", "slow", "clear", "drop x", "drop y", "sin(1e22)", "tanpi(x/4)", "fma(x,x,-1)", "nan", "2e", "#", "sin(1,2)", "(1", "x y", "\xff",
		strings.Repeat("-", 51) + "1", strings.Repeat("(", 50) + "1" + strings.Repeat(")", 50), strings.Repeat("1", 1000), strings.Repeat("1", 1001),
	}
}

// deskCalls: each line on a desk of its own on which x stands, and what it has behind the line; and texts of several lines.
func deskCalls() []call {
	var out []call
	told := func(line string) (*calc.Desk, calc.Reply) {
		d := calc.New()
		d.Line("x = 1.5")
		return d, d.Line(line)
	}
	for i, line := range someLines() {
		out = append(out, plain("calc.Line", func() ([]limbs, api.Errno) {
			_, r := told(line)
			return replied(r)
		}), plain("calc.Names", func() ([]limbs, api.Errno) {
			d, _ := told(line)
			return letters(strings.Join(d.Names(), " "), api.OK)
		}), plain("calc.Line of no desk", func() ([]limbs, api.Errno) { return replied((*calc.Desk)(nil).Line(line)) }),
			plain("calc.Run", func() ([]limbs, api.Errno) {
				var list []limbs
				for _, r := range calc.Run(strings.Join(someLines()[:i], "\n")) {
					text, _ := letters(r.Text, r.E)
					list = append(list, text[0], nat.Word(uint64(r.At)), nat.Word(uint64(r.E)))
				}
				return list, api.OK
			}))
	}
	return out
}

func TestDesksKeepTheRules(t *testing.T) {
	for _, c := range deskCalls() {
		holds(t, c, nil)
	}
}

func TestDesksAreToldAnew(t *testing.T) {
	toldAnew(t, deskCalls())
}
