package oracle

import (
	"math/big"
	"strings"

	"gnomon/api"
)

// Edits: s, and the texts that come of it where one byte is taken away, or one of the others stands in its place or ahead of it or at the end.
func Edits(s, others string) []string {
	out := []string{s}
	for i := range len(s) + 1 {
		front, back := s[:i], s[i:]
		if back != "" {
			out = append(out, front+back[1:])
		}
		for k := range len(others) {
			other := others[k : k+1]
			out = append(out, front+other+back)
			if back != "" {
				out = append(out, front+other+back[1:])
			}
		}
	}
	return out
}

// Odd are bytes that stand in no number's text, or stand there for something else: blanks, signs, the first bytes of digits of other scripts, bytes that are no letters at all.
const Odd = "+-.0159aefginpxAEFINPX_ \t\n\x00\x7f\x80\xd9\xff/:@G`,"

// All: s with so many bytes; the middle is repeated as often as it takes.
func All(front, middle, back string, bytes int) string {
	return front + strings.Repeat(middle, (bytes-len(front)-len(back))/len(middle)) + back
}

// Sizes: of a format the patterns above nought about which texts are worth trying: those of Finite, all powers of two, and what stands on both sides of them.
func Sizes(f api.Format) []uint64 {
	var out []uint64
	for i, b := range Finite(f) {
		if i >= 2 && i%2 == 0 {
			out = append(out, b)
		}
	}
	return append(out, Powers(f)...)
}

// Powers: the powers of two that a format has, and their neighbours.
func Powers(f api.Format) []uint64 {
	var out []uint64
	x := ValueOf(f, 1)
	for b := uint64(1); b < Infinity(f); b = Rounded(f, x) {
		if b > 1 {
			out = append(out, b-1)
		}
		out = append(out, b, b+1)
		x.Mul(x, big.NewRat(2, 1))
	}
	return out
}
