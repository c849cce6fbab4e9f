// Package reading is what the readers of numbers' texts share: a text that is taken piece by piece from its front, and the fault with which a reader gives up.
package reading

import (
	"strconv"
	"strings"

	"gnomon/api"
)

// Far is the size of an exponent from which on it only counts which way it leads: the digits that a text has room for move a number by some 16,000 places at most.
const Far = 100000

const decimals = "0123456789"

// Fault is what a reader gives up with, by panic at the place where a text goes wrong; the face that called the reader recovers it.
type Fault struct{ Errno api.Errno }

func (f Fault) Error() string {
	return "no number's text: error " + strconv.Itoa(int(f.Errno))
}

// Text is what is still to be read of a text.
type Text struct{ rest string }

// Open: the text s, all of it to be read. Gives up where it is too long, whatever stands in it.
func Open(s string) *Text {
	if len(s) > api.MaxText {
		panic(Fault{api.ErrLong})
	}
	return &Text{s}
}

// Is: is just this word still to be read?
func (t *Text) Is(word string) bool { return t.rest == word }

// Takes: does one of the words stand next? If so, it is taken.
func (t *Text) Takes(words ...string) bool {
	for _, word := range words {
		rest, found := strings.CutPrefix(t.rest, word)
		if found {
			t.rest = rest
			return true
		}
	}
	return false
}

// Needs: one of the words is taken; gives up where none stands next.
func (t *Text) Needs(words ...string) {
	if !t.Takes(words...) {
		giveUp()
	}
}

// End gives up where something is still to be read.
func (t *Text) End() {
	if t.rest != "" {
		giveUp()
	}
}

// Minus: takes a sign, if one stands next; is it a minus?
func (t *Text) Minus() bool {
	return !t.Takes("+") && t.Takes("-")
}

// Digits: takes digits of the given kinds with at most one point among them, and tells them without the point and without noughts in front, and how many stood behind the point. Gives up where there is none.
func (t *Text) Digits(kinds string) (digits string, behind int) {
	digits = t.run(kinds)
	if t.Takes(".") {
		fraction := t.run(kinds)
		digits, behind = digits+fraction, len(fraction)
	}
	if digits == "" {
		giveUp()
	}
	return strings.TrimLeft(digits, "0"), behind
}

// Exponent: takes a sign, if one stands next, and decimal digits, and tells their number; of one that is Far or more by its size Far. Gives up where there is no digit.
func (t *Text) Exponent() int {
	minus := t.Minus()
	digits := t.run(decimals)
	if digits == "" {
		giveUp()
	}
	size := 0
	for _, digit := range digits {
		size = min(10*size+int(digit-'0'), Far)
	}
	if minus {
		return -size
	}
	return size
}

// run: takes what stands next of the given kinds.
func (t *Text) run(kinds string) string {
	rest := strings.TrimLeft(t.rest, kinds)
	taken := t.rest[:len(t.rest)-len(rest)]
	t.rest = rest
	return taken
}

func giveUp() { panic(Fault{api.ErrText}) }
