package calc

import (
	"slices"
	"strings"
	"testing"

	"gnomon/api"
	"gnomon/trig"
)

// uncertain: no number is known whose answer isn't certain, so this is a Lib without a road, which is certain of nothing.
func uncertain() *trig.Lib { return new(trig.Lib) }

func TestP27_6_Hard(t *testing.T) {
	d := New()
	d.Line("x = 1")
	for _, c := range []struct {
		line string
		at   int
	}{
		{"sin(1)", 0}, {"cos(1)", 0}, {"tan(1)", 0}, {" \ttan (x)", 2}, {"1+cos(2)", 2}, {"-sin(x)*0", 1}, {"(tan(1))", 1}, {"sin(0)", 0}, {"cos(nan)", 0}, {"y = sin(1)", 4}, {"x = x + tan(x)", 8},
		// The first one by its closing bracket is not always the first one by its word.
		{"sin(cos(1))", 4}, {"sin(1+cos(tan(2)))", 10}, {"sin(1)+cos(2)", 0}, {"cos(2)*-tan(3)", 0}, {"1-(2-tan(1))-sin(1)", 5}, {"fma(1,sin(1),cos(1))", 6}, {"fma(tan(sin(1)),2,cos(1))", 8}, {"sin(abs(1)-cos(1))", 11}, {"abs(sin(1))+tan(cos(1))", 4},
		{"sin(fma(1,2,sinpi(cos(1))))", 18}, {"sqrt(sinpi(1))+tan(1)", 15}, {"1/0*sin(1)", 4},
	} {
		if got := d.reply(c.line, uncertain()); got != (Reply{At: c.at, E: api.ErrHard}) {
			t.Errorf("%q is answered by %v, want ErrHard at %d", c.line, got, c.at)
		}
	}
	if got := d.Names(); !slices.Equal(got, []string{"x"}) || d.Line("x").Text != "1" {
		t.Errorf("P27.8: the names are %q, and x is %v", got, d.Line("x"))
	}
}

// What is certain stays so: the other functions don't go by the desk's road.
func TestP27_6_OnlyTheRoad(t *testing.T) {
	for line, want := range map[string]string{"sinpi(1/2)": "1", "cospi(1)": "-1", "tanpi(1/4)": "1", "sqrt(4)": "2", "abs(-3)": "3", "fma(1,2,3)": "5", "-(1+2)*3/4": "-2.25", "pi": "3.141592653589793", "x = 1e5": "100000", "hex": "", "": "", "names": ""} {
		if got := New().reply(line, uncertain()); got != (Reply{Text: want}) {
			t.Errorf("%q is answered by %v", line, got)
		}
	}
}

// A fault of the line goes ahead of ErrHard, wherever it stands, and ErrHard ahead of ErrFull.
func TestP27_7_AheadOfHard(t *testing.T) {
	d := New()
	for i := range api.MaxNames {
		d.Line("n" + string(rune('a'+i/8)) + string(rune('a'+i%8)) + " = 1")
	}
	deepest := strings.Repeat("-", api.MaxDepth)
	for _, c := range []struct {
		line string
		at   int
		e    api.Errno
	}{
		{"sin(1", 5, api.ErrText}, {"sin(1)+", 7, api.ErrText}, {"sin(1)+#", 7, api.ErrText}, {"sin(1) 2e", 7, api.ErrText}, {"sin(1)+y", 7, api.ErrName}, {"sin(1)*cos(1,2)", 14, api.ErrCount}, {"sin(1)+" + deepest + "-1", 7 + api.MaxDepth, api.ErrDeep}, {"sin(1)=2", 6, api.ErrText},
		{"w = sin(1)", 4, api.ErrHard}, {"w = 1", 0, api.ErrFull}, {"w = sin(1)+y", 11, api.ErrName}, {" w = 1+tan(2)", 7, api.ErrHard}, {"naa = sin(1)", 6, api.ErrHard},
	} {
		if got := d.reply(c.line, uncertain()); got != (Reply{At: c.at, E: c.e}) {
			t.Errorf("%q is answered by %v, want error %d at %d", c.line, got, c.e, c.at)
		}
	}
	if len(d.Names()) != api.MaxNames || d.Line("naa").Text != "1" {
		t.Errorf("P27.8: %d names stand, and naa is %v", len(d.Names()), d.Line("naa"))
	}
}

// Both roads answer alike: which one a desk takes is told by its Lib alone.
func TestP27_7_Roads(t *testing.T) {
	fast, _ := trig.New(trig.Fast)
	slow, _ := trig.New(trig.Slow)
	d := New()
	if *d.road() != *fast || *new(Desk).road() != *fast {
		t.Errorf("a new desk does not take the fast road")
	}
	for _, c := range []struct {
		line string
		want *trig.Lib
	}{{"fast", fast}, {"slow", slow}, {"slow", slow}, {"fast 1", slow}, {"sin(1)", slow}, {"hex", slow}, {"clear", slow}, {"x = fast", slow}, {"fast", fast}, {"slow 1", fast}, {"slow = 1", fast}, {"dec", fast}, {"slow", slow}, {"fast", fast}} {
		if d.Line(c.line); *d.road() != *c.want {
			t.Errorf("another road behind %q", c.line)
		}
	}
}

// Of a NaN no text tells which one it is.
func TestP27_2_ConstantPatterns(t *testing.T) {
	for word, want := range map[string]uint64{"pi": 0x400921fb54442d18, "inf": 0x7ff0000000000000, "nan": 0x7ff8000000000001} {
		d := New()
		d.Line("x = " + word)
		if got := d.names[nameOf("x")]; got != want {
			t.Errorf("%s is %x", word, got)
		}
	}
}

func TestStack(t *testing.T) {
	var s stack[string]
	for _, x := range []string{"a", "b", "c", "d"} {
		s.put(x)
	}
	top := s.take(2)
	s.put("e")
	if !slices.Equal(top, []string{"c", "d"}) {
		t.Errorf("%q lay on top", top)
	}
	if rest := s.take(3); !slices.Equal(rest, []string{"a", "b", "e"}) || len(s.take(0)) != 0 {
		t.Errorf("%q lay there", rest)
	}
}

func TestFaultIsAnError(t *testing.T) {
	var e error = fault{17, api.ErrDeep}
	if s := e.Error(); !strings.Contains(s, "17") || !strings.Contains(s, "11") {
		t.Errorf("%q does not tell the error and its place", s)
	}
}

// A panic that is no fault of a line is not taken for one.
func TestOtherPanicsGoOn(t *testing.T) {
	defer func() {
		if recover() == nil {
			t.Errorf("nothing came through")
		}
	}()
	(*Desk)(nil).reply("hex", nil)
}
