package rules

import (
	"strings"
	"testing"

	"gnomon/api"
	"gnomon/decimal"
	"gnomon/hexfloat"
)

// letters: a text that is answered, one byte a limb (none of them is 0).
func letters(s string, e api.Errno) ([]limbs, api.Errno) {
	var out limbs
	for i := range len(s) {
		out = append(out, uint64(s[i]))
	}
	return []limbs{out}, e
}

func ofText(f api.Format, s string) []call {
	return []call{
		{"hexfloat.Parse", 0, func([]limbs) ([]limbs, api.Errno) { return fields(pattern(hexfloat.Parse(f, s))) }},
		{"decimal.Parse", 0, func([]limbs) ([]limbs, api.Errno) { return fields(pattern(decimal.Parse(f, s))) }},
	}
}

func toText(f api.Format, b uint64) []call {
	out := []call{
		{"hexfloat.Print", 0, func([]limbs) ([]limbs, api.Errno) { return letters(hexfloat.Print(f, b)) }},
		{"decimal.Print", 0, func([]limbs) ([]limbs, api.Errno) { return letters(decimal.Print(f, b)) }},
	}
	for _, n := range []int{0, 1, 17, 800, 801} {
		out = append(out, call{"decimal.Digits", 0, func([]limbs) ([]limbs, api.Errno) { return letters(decimal.Digits(f, b, n)) }})
	}
	return out
}

func TestTextsKeepTheRules(t *testing.T) {
	texts := []string{"", "nan", "-inf", "x", "1", "-0", "0.1", "1e400", "-1e-400", "0x1p0", "-0x0p9", "0x1.8p-1075", "0x1p99999999999999999999", strings.Repeat("1", 4000), strings.Repeat("1", 4001), "\xff"}
	for _, f := range someFormats() {
		for _, s := range texts {
			for _, c := range ofText(f, s) {
				holds(t, c, nil)
			}
		}
		for _, b := range patterns {
			for _, c := range toText(f, b) {
				holds(t, c, nil)
			}
		}
	}
}

// What was read or refused ahead of a call does not touch it: a reader that gave up leaves nothing behind.
func TestReadersForget(t *testing.T) {
	for _, s := range []string{"1e", "x", "0x1p", strings.Repeat("1", 4001)} {
		decimal.Parse(api.Double, s)
		hexfloat.Parse(api.Single, s)
		if b, e := decimal.Parse(api.Double, "1"); b != 0x3ff0000000000000 || e != api.OK {
			t.Errorf("decimal.Parse behind %.9q: %x, error %d", s, b, e)
		}
		if b, e := hexfloat.Parse(api.Single, "0x1p0"); b != 0x3f800000 || e != api.OK {
			t.Errorf("hexfloat.Parse behind %.9q: %x, error %d", s, b, e)
		}
	}
}
