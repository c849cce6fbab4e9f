package natdiv

import (
	"strconv"
	"strings"

	"gnomon/api"
	"gnomon/nat"
)

// The greatest power of ten that is a word: digits go through it, so many at a time.
const (
	pieceDigits = 19
	pieceScale  = 10_000_000_000_000_000_000
)

// Text: the decimal digits.
func Text(a []uint64) (string, api.Errno) {
	if !nat.Form(a) {
		return "", api.ErrForm
	}
	if len(a) == 0 {
		return "0", api.OK
	}
	// Ten is below 2^4: this tells the great numbers ahead of the work for their digits.
	if nat.Bits(a) > 4*api.MaxDigits {
		return "", api.ErrLimit
	}
	text := strings.TrimLeft(paddedText(a), "0")
	if len(text) > api.MaxDigits {
		return "", api.ErrLimit
	}
	return text, api.OK
}

// paddedText: a's digits with noughts in front, in whole pieces.
func paddedText(a []uint64) string {
	var pieces []uint64 // the lowest first
	for len(a) > 0 {
		quotient, piece, _ := nat.DivWord(a, pieceScale)
		pieces, a = append(pieces, piece), quotient
	}
	var text strings.Builder
	for i := range len(pieces) {
		digits := strconv.FormatUint(pieces[len(pieces)-1-i], 10)
		text.WriteString(strings.Repeat("0", pieceDigits-len(digits)))
		text.WriteString(digits)
	}
	return text.String()
}

// Read: the natural of decimal digits.
func Read(s string) ([]uint64, api.Errno) {
	if len(s) > api.MaxDigits {
		return nil, api.ErrLong
	}
	if s == "" {
		return nil, api.ErrText
	}
	var value []uint64
	piece, scale := uint64(0), uint64(1)
	for _, r := range s {
		if r < '0' || r > '9' {
			return nil, api.ErrText
		}
		piece, scale = 10*piece+uint64(r-'0'), 10*scale
		if scale == pieceScale {
			value = extended(value, scale, piece)
			piece, scale = 0, 1
		}
	}
	return extended(value, scale, piece), api.OK
}

// extended: value*scale + piece. (MaxDigits digits are far from MaxLimbs limbs.)
func extended(value []uint64, scale, piece uint64) []uint64 {
	raised, _ := nat.MulWord(value, scale)
	sum, _ := nat.Add(raised, nat.Word(piece))
	return sum
}
