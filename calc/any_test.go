package calc_test

import (
	"slices"
	"strings"
	"testing"

	"gnomon/api"
	"gnomon/calc"
	"gnomon/oracle"
)

// dice are numbers without a rule, the same ones each time.
type dice struct {
	words []uint64
	place int
}

func newDice(turn int) *dice { return &dice{oracle.Words(1 << 16), turn * 7919} }

// below: one of 0 to n-1.
func (d *dice) below(n int) int {
	d.place++
	w := d.words[d.place%len(d.words)] + uint64(d.place/len(d.words))*0x9e3779b97f4a7c15
	return int(w >> 20 % uint64(n))
}

func one[T any](d *dice, list []T) T { return list[d.below(len(list))] }

// Every line of up to four pieces out of one of each kind, and of five out of fewer.
func TestP27_3_P27_5_EveryShortLine(t *testing.T) {
	everyLine(t, 4, "1", "x", "y", "pi", "abs", "fma", "-", "+", "/", "(", ")", ",", "=", "dec", "drop", "#", "2e", "abcdefghijklmnopq")
	everyLine(t, 5, "2", "x", "y", "abs", "-", "*", "(", ")", ",", "=")
}

// everyLine looks at all lines that begin with each of the kinds, those of one beginning at the same time as those of the others.
func everyLine(t *testing.T, longest int, kinds ...string) {
	t.Helper()
	for _, first := range kinds {
		t.Run(first, func(t *testing.T) {
			t.Parallel()
			p := newPair(t)
			line := []string{first}
			var further func()
			further = func() {
				p.told(strings.Join(line, " "))
				if len(line) == longest {
					return
				}
				for _, k := range kinds {
					line = append(line, k)
					further()
					line = line[:len(line)-1]
				}
			}
			further()
		})
	}
}

// pair is a desk and a model on which x stands.
type pair struct {
	t    *testing.T
	desk *calc.Desk
	m    *model
}

func newPair(t *testing.T) *pair {
	p := &pair{t, calc.New(), newModel()}
	p.desk.Line("x = 3")
	p.m.line("x = 3")
	return p
}

// told looks at a line. One without a fault may have changed something: behind it the pair is a new one.
func (p *pair) told(line string) {
	got, want := p.desk.Line(line), p.m.line(line)
	if got != want {
		p.t.Fatalf("%q is answered by %v, want %v", line, got, want)
	}
	if got.E == api.OK {
		if names := p.desk.Names(); !slices.Equal(names, p.m.standing()) {
			p.t.Fatalf("behind %q the names are %q", line, names)
		}
		*p = *newPair(p.t)
	}
}

// factor, expression: pieces of an expression, nested as deep as is said at most.
func factor(d *dice, depth int) []string {
	plain := []string{"0", "1", "2", "0.5", "1e3", ".25", "7.", "1e22", "3e-320", "1.7976931348623157e308", "0x1.8p1", "0x.1p-1070", "0xap-3", "x", "y", "a2", "z", "n07", "abcdefghijklmnop", "pi", "inf", "nan"}
	kind := d.below(10)
	if depth <= 0 {
		kind = 0
	}
	switch {
	case kind < 6:
		return []string{one(d, plain)}
	case kind == 6:
		return append([]string{"-"}, factor(d, depth-1)...)
	case kind == 7:
		return slices.Concat([]string{"("}, expression(d, depth-1), []string{")"})
	}
	word := one(d, functions[:])
	out := slices.Concat([]string{word, "("}, expression(d, depth-1))
	if (word == "fma") != (d.below(15) == 0) { // now and then too few arguments, or too many
		out = slices.Concat(out, []string{","}, expression(d, depth-1), []string{","}, expression(d, depth-1))
	}
	return append(out, ")")
}

func expression(d *dice, depth int) []string {
	out := factor(d, depth)
	for d.below(5) < 2 {
		out = append(out, one(d, []string{"+", "-", "*", "/"}))
		out = append(out, factor(d, depth)...)
	}
	return out
}

// anyLine: a line in one of the forms, a piece of it often spoilt, with and without blanks between the pieces.
func anyLine(d *dice) string {
	nameList := []string{"x", "y", "a2", "z", "n07", "abcdefghijklmnop", "b"}
	var out []string
	switch d.below(12) {
	case 0:
		out = []string{one(d, commands[:])}
	case 1:
		out = []string{"drop", one(d, nameList)}
	case 2, 3, 4, 5:
		out = append([]string{one(d, nameList), "="}, expression(d, d.below(5))...)
	default:
		out = expression(d, d.below(5))
	}
	for d.below(3) == 0 {
		out = spoilt(d, out)
	}
	var line strings.Builder
	for i, s := range out {
		line.WriteString(s)
		if d.below(2) == 0 || i+1 < len(out) && glued(s, out[i+1]) && d.below(8) > 0 {
			line.WriteString(one(d, []string{" ", "  ", "\t"}))
		}
	}
	return line.String()
}

// glued: would two pieces be one without a blank, or cut elsewhere?
func glued(a, b string) bool { return len(shreds(a+b)) != 3 || shreds(a + b)[0].text != a }

// spoilt: the pieces with one more, one less, another one, or two of them in each other's place.
func spoilt(d *dice, pieces []string) []string {
	strange := []string{"+", "-", "*", "/", "(", ")", ",", "=", "1", "x", "q", "sin", "fma", "hex", "drop", "#", "2e", "0x", ".", "1e+", "X", "é", "\x00", "\n", "abcdefghijklmnopq", "0x1p1", "pi", "((", "--", "==", ",1"}
	out := slices.Clone(pieces)
	at := d.below(len(out) + 1)
	switch d.below(4) {
	case 0:
		return slices.Insert(out, at, one(d, strange))
	case 1:
		return append(out[:at], out[min(at+1, len(out)):]...)
	case 2:
		if at < len(out) {
			out[at] = one(d, strange)
		}
	case 3:
		if at+1 < len(out) {
			out[at], out[at+1] = out[at+1], out[at]
		}
	}
	return out
}

// Whole sessions, in which names are given, dropped and cleared, and faults stand between.
func TestP27_AnyLines(t *testing.T) {
	t.Parallel()
	tally := map[api.Errno]int{}
	for session := range 120 {
		d, m, rolls := calc.New(), newModel(), newDice(session)
		for range 150 {
			line := anyLine(rolls)
			got, want := d.Line(line), m.line(line)
			if got != want {
				t.Fatalf("session %d: %q is answered by %v, want %v", session, line, got, want)
			}
			if !slices.Equal(d.Names(), m.standing()) {
				t.Fatalf("session %d: behind %q the names are %q", session, line, d.Names())
			}
			tally[got.E]++
			if got.E == api.OK && got.At != 0 || got.E != api.OK && got.Text != "" {
				t.Errorf("%q is answered by %v", line, got)
			}
		}
	}
	// The sessions are worth something only if they have both.
	if tally[api.OK] < 3000 || tally[api.ErrText] < 1500 || tally[api.ErrName] < 300 || tally[api.ErrCount] < 20 {
		t.Errorf("the replies' errors: %v", tally)
	}
}

// Signs and brackets in heaps, about the greatest depth.
func TestP27_4_AnyDepth(t *testing.T) {
	t.Parallel()
	tally := map[api.Errno]int{}
	for turn := range 3000 {
		rolls := newDice(turn)
		var front, behind strings.Builder
		for range 40 + rolls.below(20) {
			n := one(rolls, []nest{bracket, minus, minus, fun, three, middle, added, times})
			front.WriteString(n.front)
			behind.WriteString(n.behind)
		}
		line := front.String() + "1" + strings.Repeat(")", strings.Count(behind.String(), ")")) // the other halves may be at fault
		d, m := calc.New(), newModel()
		got, want := d.Line(line), m.line(line)
		if got != want {
			t.Fatalf("%q is answered by %v, want %v", line, got, want)
		}
		tally[got.E]++
	}
	if tally[api.ErrDeep] < 100 || tally[api.OK]+tally[api.ErrCount] < 100 {
		t.Errorf("the replies' errors: %v", tally)
	}
}

// anyBytes: bytes of all kinds, or mostly those that a line may have.
func anyBytes(d *dice) string {
	const usual = "0123456789..eexxpp+-*/(),= \tabcsinfmadropixyz"
	out := make([]byte, d.below(30))
	wild := d.below(4) == 0
	for i := range out {
		out[i] = usual[d.below(len(usual))]
		if wild {
			out[i] = byte(d.below(256))
		}
	}
	return string(out)
}

// Whatever the bytes are, a line is answered, and a new desk that is told the same lines answers the same again.
func TestP1_P2_AnyBytes(t *testing.T) {
	t.Parallel()
	rolls := newDice(5)
	d, again, m := calc.New(), calc.New(), newModel()
	for range 40000 {
		line := anyBytes(rolls)
		got := d.Line(line)
		if want := m.line(line); got != want {
			t.Fatalf("%q is answered by %v, want %v", line, got, want)
		}
		if second := again.Line(line); second != got {
			t.Fatalf("%q is answered by %v, and by %v the next time", line, got, second)
		}
	}
}
