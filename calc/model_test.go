package calc_test

import (
	"fmt"
	"go/ast"
	"go/parser"
	"go/token"
	"maps"
	"regexp"
	"slices"
	"strings"

	"gnomon/api"
	"gnomon/calc"
	"gnomon/decimal"
	"gnomon/hexfloat"
	"gnomon/soft"
	"gnomon/trig"
)

// model is a desk by other means: lines are cut by a pattern of the library's, faults are seen by going through the pieces with what is open in a list, and values come from Go's own reader of expressions.
type model struct {
	names map[string]uint64
	hex   bool
	lib   *trig.Lib
}

func newModel() *model {
	lib, _ := trig.New(trig.Fast)
	return &model{names: map[string]uint64{}, lib: lib}
}

// shred is a piece of a line.
type shred struct {
	text string
	at   int
}

var (
	shape  = regexp.MustCompile(`^(?:[a-z][a-z0-9]*|0x[0-9a-f.]*(?:p[+-]?[0-9]*)?|[0-9.]+(?:e[+-]?[0-9]*)?)`)
	word   = regexp.MustCompile(`^[a-z]`)
	figure = regexp.MustCompile(`^[0-9.]`)
)

// shreds: the pieces of a line, the last one its end.
func shreds(line string) []shred {
	var out []shred
	for at := 0; at < len(line); {
		s := line[at:]
		if s[0] == ' ' || s[0] == '\t' {
			at++
			continue
		}
		n := max(1, len(shape.FindString(s)))
		out = append(out, shred{s[:n], at})
		at += n
	}
	return append(out, shred{"", len(line)})
}

func isName(s string) bool {
	reserved := slices.Contains(commands[:], s) || slices.Contains(functions[:], s) || slices.Contains(constants[:], s)
	return word.MatchString(s) && !reserved && len(s) <= api.MaxName
}

// number: what a text is read as.
func readNumber(s string) (uint64, bool) {
	parse := decimal.Parse
	if strings.HasPrefix(s, "0x") {
		parse = hexfloat.Parse
	}
	b, e := parse(api.Double, s)
	return b, e == api.OK
}

// open is what is not yet ended: of "-" the sign, of "(" the bracket, else a function's bracket and how many arguments have begun.
type open struct {
	what  string
	begun int
}

// walk is the way through the pieces of an expression.
type walk struct {
	m       *model
	open    []open
	ahead   string // the function whose bracket comes next
	operand bool   // is the last piece the end of a factor?
}

func (w *walk) top() *open {
	if len(w.open) == 0 {
		return &open{}
	}
	return &w.open[len(w.open)-1]
}

// ended: a factor has come to its end, and so have all signs in front of it.
func (w *walk) ended() api.Errno {
	for w.top().what == "-" {
		w.open = w.open[:len(w.open)-1]
	}
	w.operand = true
	return api.OK
}

func (w *walk) opens(what string) api.Errno {
	if len(w.open) >= api.MaxDepth {
		return api.ErrDeep
	}
	w.open = append(w.open, open{what, 1})
	w.ahead = ""
	return api.OK
}

// step: the fault that the next piece is, if it is one.
func (w *walk) step(s string) api.Errno {
	switch {
	case w.ahead != "" && s == "(":
		return w.opens(w.ahead)
	case w.ahead != "":
		return api.ErrText
	case w.operand:
		return w.behind(s)
	case s == "-" || s == "(":
		return w.opens(s)
	case slices.Contains(functions[:], s):
		w.ahead = s
		return api.OK
	case slices.Contains(constants[:], s):
		return w.ended()
	case isName(s):
		if _, ok := w.m.names[s]; !ok {
			return api.ErrName
		}
		return w.ended()
	case figure.MatchString(s):
		if _, ok := readNumber(s); ok {
			return w.ended()
		}
	}
	return api.ErrText
}

// behind: the same behind a factor.
func (w *walk) behind(s string) api.Errno {
	inner := w.top()
	called := word.MatchString(inner.what)
	switch {
	case s == "" && len(w.open) == 0:
		return api.OK
	case s == "+" || s == "-" || s == "*" || s == "/":
		w.operand = false
		return api.OK
	case s == "," && called:
		inner.begun++
		w.operand = false
		return api.OK
	case s == ")" && called && (inner.what == "fma") != (inner.begun == 3), s == ")" && called && inner.what != "fma" && inner.begun != 1:
		return api.ErrCount
	case s == ")" && len(w.open) > 0:
		w.open = w.open[:len(w.open)-1]
		return w.ended()
	}
	return api.ErrText
}

// expression: the fault of an expression to the line's end, or its value.
func (m *model) expression(pieces []shred) (uint64, calc.Reply) {
	w := walk{m: m}
	for _, p := range pieces {
		if e := w.step(p.text); e != api.OK {
			return 0, calc.Reply{At: p.at, E: e}
		}
	}
	return m.value(pieces), calc.Reply{}
}

// value: the expression is written anew, with other names in place of its factors, for Go's reader.
func (m *model) value(pieces []shred) uint64 {
	values := map[string]uint64{"pi": 0x400921fb54442d18, "inf": 0x7ff0000000000000, "nan": quiet}
	var anew strings.Builder
	for i, p := range pieces {
		s := p.text
		if isName(s) || figure.MatchString(s) {
			s = fmt.Sprintf("value%d", i)
			values[s], _ = readNumber(p.text)
			if isName(p.text) {
				values[s] = m.names[p.text]
			}
		}
		anew.WriteString(s + " ")
	}
	tree, err := parser.ParseExpr(anew.String())
	if err != nil {
		panic(err)
	}
	return m.of(tree, values)
}

func (m *model) of(tree ast.Expr, values map[string]uint64) uint64 {
	switch x := tree.(type) {
	case *ast.Ident:
		return values[x.Name]
	case *ast.ParenExpr:
		return m.of(x.X, values)
	case *ast.UnaryExpr:
		return sure(soft.Neg(api.Double, m.of(x.X, values)))
	case *ast.BinaryExpr:
		call := map[token.Token]func(api.Format, uint64, uint64) (uint64, api.Errno){token.ADD: soft.Add, token.SUB: soft.Sub, token.MUL: soft.Mul, token.QUO: soft.Div}[x.Op]
		return sure(call(api.Double, m.of(x.X, values), m.of(x.Y, values)))
	case *ast.CallExpr:
		var list []uint64
		for _, a := range x.Args {
			list = append(list, m.of(a, values))
		}
		return m.called(x.Fun.(*ast.Ident).Name, list)
	}
	panic(fmt.Sprintf("%T", tree))
}

func sure(b uint64, e api.Errno) uint64 {
	if e != api.OK {
		panic(e)
	}
	return b
}

func certain(b uint64, ok bool) uint64 {
	if !ok {
		panic("not certain")
	}
	return b
}

func (m *model) called(name string, x []uint64) uint64 {
	turn := func(fn api.Fn) uint64 {
		b, ok, e := trig.Value(api.Double, fn, x[0])
		return certain(sure(b, e), ok)
	}
	switch name {
	case "sin":
		return certain(m.lib.Sin(x[0]))
	case "cos":
		return certain(m.lib.Cos(x[0]))
	case "tan":
		return certain(m.lib.Tan(x[0]))
	case "sinpi":
		return turn(api.SinPi)
	case "cospi":
		return turn(api.CosPi)
	case "tanpi":
		return turn(api.TanPi)
	case "sqrt":
		return sure(soft.Sqrt(api.Double, x[0]))
	case "abs":
		return sure(soft.Abs(api.Double, x[0]))
	case "fma":
		return sure(soft.Fma(api.Double, x[0], x[1], x[2]))
	}
	panic(name)
}

func (m *model) printed(b uint64) calc.Reply {
	s, e := decimal.Print(api.Double, b)
	if m.hex {
		s, e = hexfloat.Print(api.Double, b)
	}
	if e != api.OK {
		panic(e)
	}
	return calc.Reply{Text: s}
}

// line: the reply to a line.
func (m *model) line(s string) calc.Reply {
	if len(s) > api.MaxLine {
		return calc.Reply{E: api.ErrLong}
	}
	pieces := shreds(s)
	first := pieces[0]
	switch {
	case first.text == "":
		return calc.Reply{}
	case slices.Contains(commands[:], first.text):
		return m.command(pieces)
	case isName(first.text) && pieces[1].text == "=":
		value, r := m.expression(pieces[2:])
		_, stands := m.names[first.text]
		switch {
		case r.E != api.OK:
			return r
		case !stands && len(m.names) == api.MaxNames:
			return calc.Reply{At: first.at, E: api.ErrFull}
		}
		m.names[first.text] = value
		return m.printed(value)
	}
	value, r := m.expression(pieces)
	if r.E != api.OK {
		return r
	}
	return m.printed(value)
}

func (m *model) command(pieces []shred) calc.Reply {
	last := pieces[1]
	if pieces[0].text == "drop" {
		n := pieces[1]
		if !isName(n.text) {
			return calc.Reply{At: n.at, E: api.ErrText}
		}
		if _, ok := m.names[n.text]; !ok {
			return calc.Reply{At: n.at, E: api.ErrName}
		}
		last = pieces[2]
	}
	if last.text != "" {
		return calc.Reply{At: last.at, E: api.ErrText}
	}
	switch pieces[0].text {
	case "drop":
		delete(m.names, pieces[1].text)
	case "clear":
		clear(m.names)
	case "names":
		return calc.Reply{Text: strings.Join(m.standing(), " ")}
	case "hex":
		m.hex = true
	case "dec":
		m.hex = false
	case "fast":
		m.lib, _ = trig.New(trig.Fast)
	case "slow":
		m.lib, _ = trig.New(trig.Slow)
	}
	return calc.Reply{}
}

func (m *model) standing() []string { return slices.Sorted(maps.Keys(m.names)) }
