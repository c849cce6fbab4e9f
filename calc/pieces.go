package calc

import (
	"strings"

	"gnomon/api"
)

// kind is what a piece of a line is.
type kind int

const (
	atEnd kind = iota // the line's end
	aNumber
	aName
	aConstant
	aFunction
	aCommand
	other // a mark, which its text tells, or what can stand nowhere
)

// piece is a piece of a line, and the place of its first byte.
type piece struct {
	kind kind
	text string
	at   int
}

const (
	blanks   = " \t"
	digits   = "0123456789"
	letters  = "abcdefghijklmnopqrstuvwxyz"
	numerals = digits + "."
	hexSign  = "0x"
)

// cut: the pieces of a line, its end behind them.
func cut(s string) []piece {
	var pieces []piece
	at := 0
	for {
		at += over(s[at:], blanks)
		p := first(s[at:])
		p.at = at
		pieces = append(pieces, p)
		if p.kind == atEnd {
			return pieces
		}
		at += len(p.text)
	}
}

// over: how many bytes of the given kinds s begins with.
func over(s, kinds string) int { return len(s) - len(strings.TrimLeft(s, kinds)) }

// first: the piece that s begins with.
func first(s string) piece {
	switch {
	case s == "":
		return piece{}
	case over(s, letters) > 0:
		word := s[:over(s, letters+digits)]
		return piece{kind: kindOf(word), text: word}
	case over(s, numerals) > 0:
		return piece{kind: aNumber, text: s[:numeral(s)]}
	}
	return piece{kind: other, text: s[:1]}
}

// numeral: how many bytes the number has that s begins with.
func numeral(s string) int {
	if strings.HasPrefix(s, hexSign) {
		return withExponent(s, len(hexSign)+over(s[len(hexSign):], numerals+"abcdef"), "p")
	}
	return withExponent(s, over(s, numerals), "e")
}

// withExponent: how many bytes the number has whose first n are known and whose exponent, if there is one, begins with the letter.
func withExponent(s string, n int, letter string) int {
	rest, found := strings.CutPrefix(s[n:], letter)
	if !found {
		return n
	}
	if rest != "" && (rest[0] == '+' || rest[0] == '-') {
		rest = rest[1:]
	}
	return len(s) - len(rest) + over(rest, digits)
}

// kindOf: what a word is.
func kindOf(word string) kind {
	switch word {
	case "drop", "clear", "names", "hex", "dec", "fast", "slow":
		return aCommand
	case "sin", "cos", "tan", "sinpi", "cospi", "tanpi", "sqrt", "abs", "fma":
		return aFunction
	case "pi", "inf", "nan":
		return aConstant
	}
	if len(word) > api.MaxName {
		return other
	}
	return aName
}
