package calc

import (
	"slices"
	"strings"

	"gnomon/api"
	"gnomon/decimal"
	"gnomon/hexfloat"
	"gnomon/trig"
)

// reader reads a line piece by piece, gives up at the first one at fault, and plans what is to be reckoned. Nothing is reckoned ahead of the line's end, as a fault there goes ahead of an answer that is not certain.
type reader struct {
	pieces []piece // those still to be read; the last one is the line's end
	names  map[name]uint64
	lib    *trig.Lib
	depth  int // how many brackets and signs reach over the next piece
	plan   []step
}

// next: the next piece, which is not yet taken.
func (r *reader) next() piece { return r.pieces[0] }

// take: takes the next piece. The line's end stays, however often it is taken.
func (r *reader) take() piece {
	p := r.next()
	if p.kind != atEnd {
		r.pieces = r.pieces[1:]
	}
	return p
}

// needs: takes a mark; gives up where it doesn't stand next.
func (r *reader) needs(mark string) piece {
	p := r.take()
	if p.text != mark {
		p.giveUp(api.ErrText)
	}
	return p
}

// end gives up where something is still to be read.
func (r *reader) end() {
	if p := r.next(); p.kind != atEnd {
		p.giveUp(api.ErrText)
	}
}

func (p piece) giveUp(errno api.Errno) { panic(fault{p.at, errno}) }

// standing: the name that a piece is; gives up where it is none, or stands for nothing.
func (r *reader) standing(p piece) name {
	if p.kind != aName {
		p.giveUp(api.ErrText)
	}
	n := nameOf(p.text)
	if _, ok := r.names[n]; !ok {
		p.giveUp(api.ErrName)
	}
	return n
}

// value: reads an expression and the line's end behind it, and reckons it.
func (r *reader) value() uint64 {
	r.expression()
	r.end()
	return reckoned(r.plan)
}

func (r *reader) expression() { r.chain(r.term, "+", "-") }

func (r *reader) term() { r.chain(r.factor, "*", "/") }

// chain: reads parts with one of the operators between each two.
func (r *reader) chain(part func(), operators ...string) {
	part()
	for slices.Contains(operators, r.next().text) {
		operator := r.take()
		part()
		r.plans(operator, operation(operator.text))
	}
}

// plans: what a piece asks for comes next in the plan.
func (r *reader) plans(p piece, w work) { r.plan = append(r.plan, step{w, p.at}) }

func (r *reader) factor() {
	p := r.take()
	switch {
	case p.text == "-":
		r.within(p, r.factor)
		r.plans(p, negation())
	case p.text == "(":
		r.within(p, r.expression)
		r.needs(")")
	case p.kind == aFunction:
		r.call(p)
	default:
		r.plans(p, always(r.plain(p)))
	}
}

// within: reads what a bracket or sign reaches over.
func (r *reader) within(p piece, part func()) {
	if r.depth == api.MaxDepth {
		p.giveUp(api.ErrDeep)
	}
	r.depth++
	part()
	r.depth--
}

// call: reads what stands behind a function's word.
func (r *reader) call(p piece) {
	count := 0
	r.within(r.needs("("), func() { count = r.arguments() })
	closing := r.needs(")")
	asked := function(p.text, r.lib)
	if count != asked.count {
		closing.giveUp(api.ErrCount)
	}
	r.plans(p, asked)
}

// arguments: reads expressions with commas between them, and tells how many.
func (r *reader) arguments() int {
	r.expression()
	count := 1
	for r.next().text == "," {
		r.take()
		r.expression()
		count++
	}
	return count
}

// plain: the value of a piece that is a factor by itself.
func (r *reader) plain(p piece) uint64 {
	switch p.kind {
	case aNumber:
		return p.number()
	case aConstant:
		return constant(p.text)
	}
	return r.names[r.standing(p)]
}

// number: the value of a number; gives up where its text is that of none.
func (p piece) number() uint64 {
	parse := decimal.Parse
	if strings.HasPrefix(p.text, hexSign) {
		parse = hexfloat.Parse
	}
	b, errno := parse(api.Double, p.text)
	if errno != api.OK {
		p.giveUp(api.ErrText)
	}
	return b
}
