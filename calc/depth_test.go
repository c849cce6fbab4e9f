package calc_test

import (
	"strings"
	"testing"

	"gnomon/api"
	"gnomon/calc"
)

// nest is a way to go one deeper: what stands in front of the inner part and behind it, and where in front of it the piece is that counts.
type nest struct {
	front, behind string
	place         int
}

var (
	bracket = nest{"(", ")", 0}
	minus   = nest{"-", "", 0}
	fun     = nest{"abs(", ")", 3}
	three   = nest{"fma(1,2,", ")", 3}
	middle  = nest{"fma(1,", ",0)", 3}
	added   = nest{"1+(", ")", 2}
	times   = nest{"2*-", "", 2}
)

// nested: as many parts in one another as the list says, and the place of the innermost that counts.
func nested(list []nest, inner string) (line string, at int) {
	var front, behind strings.Builder
	for i, n := range list {
		if i == len(list)-1 {
			at = front.Len() + n.place
		}
		front.WriteString(n.front)
	}
	for i := range list {
		behind.WriteString(list[len(list)-1-i].behind)
	}
	return front.String() + inner + behind.String(), at
}

// mixed: n of the ways, one after the other, over and over.
func mixed(n int, ways ...nest) []nest {
	out := make([]nest, n)
	for i := range out {
		out[i] = ways[i%len(ways)]
	}
	return out
}

func TestP27_4_Depth(t *testing.T) {
	for _, ways := range [][]nest{{bracket}, {minus}, {fun}, {three}, {middle}, {added}, {bracket, minus}, {minus, bracket}, {fun, minus}, {minus, fun}, {bracket, fun, minus}, {minus, minus, fun, bracket}, {three, added, minus}, {fun, bracket, bracket, middle, minus}, {added, times, fun}} {
		line, _ := nested(mixed(api.MaxDepth, ways...), "1")
		if r := calc.New().Line(line); r.E != api.OK || r.Text == "" {
			t.Errorf("%q is answered by %v", line, r)
		}
		line, at := nested(mixed(api.MaxDepth+1, ways...), "1")
		alone(t, nil, fault(line, at, deep), fault("x = "+line, at+4, deep), fault("1*"+line, at+2, deep))
		line, at = nested(mixed(api.MaxDepth+9, ways...), "1")
		if r := calc.New().Line(line); r.E != api.ErrDeep || r.At >= at {
			t.Errorf("%q is answered by %v", line, r)
		}
	}
}

// The sign's reach ends with its factor, the bracket's with its other half.
func TestP27_4_Ends(t *testing.T) {
	full := strings.Repeat("-", api.MaxDepth)
	opened, closed := strings.Repeat("(", api.MaxDepth), strings.Repeat(")", api.MaxDepth)
	plays(t, desk(t, "x = 3"),
		says(full+"1+"+full+"2", "3"), says(full+"1*"+full+"2", "2"), says(full+"x-"+full+"x", "0"), says(full+"1-"+full+"2", "-1"), says(full+"pi/"+full+"pi", "1"),
		says(opened+"1"+closed+"+"+opened+"2"+closed, "3"), says(opened+"1"+closed+"*"+full+"2", "2"), says(full+"1+"+opened+"2"+closed, "3"), says(full+"1-(2)", "-1"), says(full+"x*(x)", "9"),
		says(full[1:]+"(1)+"+full[1:]+"(2)", "-3"), says(full[1:]+"abs(1)*-1", "1"), says("("+full[1:]+"1+"+full[1:]+"1)-"+full+"1", "-3"), says("abs("+full[1:]+"1)", "1"), says("fma("+full[1:]+"1,"+full[1:]+"2,"+full[1:]+"3)", "-1"),
		says(strings.Repeat("-1-", 300)+"1", "297"), says(strings.Repeat("(1)+", 240)+"1", "241"), says(strings.Repeat("abs(1)+", 140)+"1", "141"), says(strings.Repeat("-(1)+", 190)+"1", "-189"),
		fault(full+"(1)", api.MaxDepth, deep), fault(full+"abs(1)", api.MaxDepth+3, deep), fault(opened+"-1"+closed, api.MaxDepth, deep), fault(opened+"1+-1"+closed, api.MaxDepth+2, deep), fault(opened+"1-1+(1)"+closed, api.MaxDepth+4, deep),
		fault(full+"1*("+full+"1)", 2*api.MaxDepth+2, deep), fault("fma("+full[1:]+"1,"+full+"2,3)", 2*api.MaxDepth+4, deep), fault("("+full[1:]+"1+"+full+"1)", 2*api.MaxDepth+1, deep), fault("-(1+"+full[1:]+"1)", api.MaxDepth+2, deep))
}

// A minus between two terms is none in front of a factor.
func TestP27_4_Between(t *testing.T) {
	opened, closed := strings.Repeat("(", api.MaxDepth), strings.Repeat(")", api.MaxDepth)
	plays(t, calc.New(), says(opened+"1-2-3"+closed, "-4"), says(opened+"1)-2"+closed[1:], "-1"), fault(opened+"1--2"+closed, api.MaxDepth+2, deep), fault(opened+"1*-2"+closed, api.MaxDepth+2, deep))
}

// Where a piece can't stand, that is its fault, however deep it would be; and a piece too deep is at fault ahead of all behind it.
func TestP27_4_P27_5_OtherFaults(t *testing.T) {
	full := strings.Repeat("-", api.MaxDepth)
	plays(t, desk(t, "x = 3"),
		fault(full+"1(", api.MaxDepth+1, text), fault(full+")", api.MaxDepth, text), fault(full+"sin", api.MaxDepth+3, text), fault(full+"sin-", api.MaxDepth+3, text), fault(full, api.MaxDepth, text), fault(full+"x(1)", api.MaxDepth+1, text), fault(full+"y(1)", api.MaxDepth, named), fault(full+"1 -", api.MaxDepth+3, text),
		fault(full+"-#", api.MaxDepth, deep), fault(full+"-y", api.MaxDepth, deep), fault(full+"(", api.MaxDepth, deep), fault(full+"-", api.MaxDepth, deep), fault(full+"abs()", api.MaxDepth+3, deep), fault("y+"+full+"-1", 0, named), fault("#"+full+"-1", 0, text), fault("abs(1,2)+"+full+"-1", 7, count))
}
