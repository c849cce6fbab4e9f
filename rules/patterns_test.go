package rules

import (
	"slices"
	"testing"

	"gnomon/api"
	"gnomon/binary"
	"gnomon/dyadic"
	"gnomon/nat"
	"gnomon/oracle"
	"gnomon/round"
	"gnomon/soft"
)

// pattern: a pattern that is answered, as a dyadic.
func pattern(b uint64, e api.Errno) (api.Dyadic, api.Errno) {
	d, _ := dyadic.Make(api.Int{Mag: nat.Word(b)}, 0)
	return d, e
}

// someFormats: both formats, and one that is none.
func someFormats() []api.Format { return append(oracle.Formats(), 16) }

func roundCalls() []call {
	var out []call
	for _, f := range someFormats() {
		out = slices.Concat(out,
			dyadicOne("round.Nearest", func(d api.Dyadic) (api.Dyadic, api.Errno) { return pattern(round.Nearest(f, d)) }),
			dyadicOne("round.Root", func(d api.Dyadic) (api.Dyadic, api.Errno) { return pattern(round.Root(f, d)) }),
			dyadicTwo("round.Quotient", func(a, b api.Dyadic) (api.Dyadic, api.Errno) { return pattern(round.Quotient(f, a, b)) }),
			spanOne("round.Decide", func(s api.Span) ([]limbs, api.Errno) {
				b, ok, e := round.Decide(f, s)
				return []limbs{nat.Word(b), flag(ok)}, e
			}),
		)
	}
	return out
}

func TestRoundingKeepsTheRules(t *testing.T) {
	allHold(t, roundCalls())
}

func TestRoundingOverlaps(t *testing.T) {
	overlap(t, roundCalls())
}

// ofPattern: the calls that have no list in their argument: what they answer is new memory, and the same again.
func ofPattern(f api.Format, b uint64) []call {
	return []call{
		{"binary.Value", 0, func([]limbs) ([]limbs, api.Errno) { return fields(binary.Value(f, b)) }},
		{"binary.Mid", 0, func([]limbs) ([]limbs, api.Errno) { return fields(binary.Mid(f, b)) }},
		{"round.Cell", 0, func([]limbs) ([]limbs, api.Errno) {
			s, inside, e := round.Cell(f, b)
			lists, _ := ends(s, e)
			return append(lists, flag(inside)), e
		}},
	}
}

// patterns: of each kind, of both formats, and of Double alone.
var patterns = [...]uint64{0, 1, 0x7f7fffff, 0x7f800000, 0x80000001, 0xffffffff, 1 << 32, 1 << 63, 0x3ff0000000000001, 0xffefffffffffffff, 0x7ff0000000000000, 1<<64 - 1}

func TestPatternsKeepTheRules(t *testing.T) {
	for _, f := range someFormats() {
		for _, b := range patterns {
			for _, c := range ofPattern(f, b) {
				holds(t, c, nil)
			}
		}
	}
}

// ofPatterns: the arithmetic on patterns, whose arguments and answers are plain numbers.
func ofPatterns(f api.Format, a, b uint64) []call {
	ask := func(name string, g func() (api.Dyadic, api.Errno)) call {
		return call{name, 0, func([]limbs) ([]limbs, api.Errno) { return fields(g()) }}
	}
	return []call{
		ask("soft.Add", func() (api.Dyadic, api.Errno) { return pattern(soft.Add(f, a, b)) }),
		ask("soft.Sub", func() (api.Dyadic, api.Errno) { return pattern(soft.Sub(f, a, b)) }),
		ask("soft.Mul", func() (api.Dyadic, api.Errno) { return pattern(soft.Mul(f, a, b)) }),
		ask("soft.Div", func() (api.Dyadic, api.Errno) { return pattern(soft.Div(f, a, b)) }),
		ask("soft.Sqrt", func() (api.Dyadic, api.Errno) { return pattern(soft.Sqrt(f, a)) }),
		ask("soft.Fma", func() (api.Dyadic, api.Errno) { return pattern(soft.Fma(f, a, b, a)) }),
		ask("soft.Neg", func() (api.Dyadic, api.Errno) { return pattern(soft.Neg(f, a)) }),
		ask("soft.Abs", func() (api.Dyadic, api.Errno) { return pattern(soft.Abs(f, a)) }),
		ask("soft.Compare", func() (api.Dyadic, api.Errno) { return number(soft.Compare(f, a, b)) }),
	}
}

func TestArithmeticKeepsTheRules(t *testing.T) {
	for _, f := range someFormats() {
		for _, a := range patterns {
			for _, b := range patterns {
				for _, c := range ofPatterns(f, a, b) {
					holds(t, c, nil)
				}
			}
		}
	}
}
