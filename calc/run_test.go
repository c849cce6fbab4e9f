package calc_test

import (
	"slices"
	"strings"
	"testing"

	"gnomon/api"
	"gnomon/calc"
)

// reply, amiss: what a line is answered.
func reply(s string) calc.Reply { return calc.Reply{Text: s} }

func amiss(at int, e api.Errno) calc.Reply { return calc.Reply{At: at, E: e} }

// runs looks at the replies to a text.
func runs(t *testing.T, s string, want ...calc.Reply) {
	t.Helper()
	if got := calc.Run(s); !slices.Equal(got, want) {
		t.Errorf("the replies to %.80q are %v, want %v", s, got, want)
	}
}

func TestP27_10_Lines(t *testing.T) {
	one, two, none := reply("1"), reply("2"), calc.Reply{}
	runs(t, "")
	runs(t, "1", one)
	runs(t, "1\n", one)
	runs(t, "1\n2", one, two)
	runs(t, "1\n2\n", one, two)
	runs(t, "1\n\n2", one, none, two)
	runs(t, "\n", none)
	runs(t, "\n\n", none, none)
	runs(t, "\n1", none, one)
	runs(t, "1\n\n", one, none)
	runs(t, "\n\n1\n\n\n2\n\n", none, none, one, none, none, two, none)
	runs(t, " ", none)
	runs(t, "\n ", none, none)
	runs(t, " \n\t\n", none, none)
	runs(t, "1\r\n2\n", amiss(1, text), two) // only 0x0a ends a line
	runs(t, "1\u20282\n", amiss(1, text))
	runs(t, "1\x002\n1", amiss(1, text), one)
}

func TestP27_10_OneDesk(t *testing.T) {
	runs(t, "x = 2\nx +\n\nx*3", reply("2"), amiss(3, text), reply(""), reply("6"))
	runs(t, "y\nx = 1\nhex\nx\nnames\ndrop x\nx\n(1\n2e\nsin(1,2)\n"+strings.Repeat("-", 51)+"1\n"+strings.Repeat(" ", 1001)+"\n1.5",
		amiss(0, named), reply("1"), reply(""), reply("0x1p+0"), reply("x"), reply(""), amiss(0, named), amiss(2, text), amiss(0, text), amiss(7, count), amiss(50, deep), amiss(0, api.ErrLong), reply("0x1.8p+0"))
}

func TestP27_10_NewDeskEachTime(t *testing.T) {
	runs(t, "x = 2\nhex\nslow\nx", reply("2"), reply(""), reply(""), reply("0x1p+1"))
	runs(t, "x\n1.5\nnames", amiss(0, named), reply("1.5"), reply(""))
}

// What Run replies is what a desk answers, line by line; however many lines there are.
func TestP27_10_LikeADesk(t *testing.T) {
	var lines []string
	var want []calc.Reply
	d := calc.New()
	for range 40 {
		for _, f := range faults() {
			lines = append(lines, f.line, "x = 1", "a = x/3", "hex", "a", "dec", "sin(a)", "names", "drop x", "")
		}
	}
	for _, line := range lines {
		want = append(want, d.Line(line))
	}
	all := strings.Join(lines, "\n")
	if got := calc.Run(all + "\n"); !slices.Equal(got, want) {
		t.Errorf("other replies than a desk's")
	}
	if got := calc.Run(all); !slices.Equal(got, want[:len(want)-1]) { // the last piece is empty: no line
		t.Errorf("other replies than a desk's where the last line has no end")
	}
}

func TestP27_10_NewMemory(t *testing.T) {
	const s = "1\nx = 2\nx\n#\nnames"
	first := calc.Run(s)
	told := slices.Clone(first)
	second := calc.Run(s)
	whole := first[:cap(first)]
	for i := range whole {
		whole[i] = amiss(77, api.ErrArg)
	}
	if !slices.Equal(second, told) || !slices.Equal(calc.Run(s), told) {
		t.Errorf("replies share memory with earlier ones")
	}
}
