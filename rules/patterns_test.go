package rules

import (
	"slices"
	"testing"

	"gnomon/api"
	"gnomon/binary"
	"gnomon/dyadic"
	"gnomon/nat"
	"gnomon/oracle"
	"gnomon/round"
)

// pattern: a pattern that is answered, as a dyadic.
func pattern(b uint64, e api.Errno) (api.Dyadic, api.Errno) {
	d, _ := dyadic.Make(api.Int{Mag: nat.Word(b)}, 0)
	return d, e
}

// someFormats: both formats, and one that is none.
func someFormats() []api.Format { return append(oracle.Formats(), 16) }

func roundCalls() []call {
	var out []call
	for _, f := range someFormats() {
		out = slices.Concat(out,
			dyadicOne("round.Nearest", func(d api.Dyadic) (api.Dyadic, api.Errno) { return pattern(round.Nearest(f, d)) }),
			dyadicOne("round.Root", func(d api.Dyadic) (api.Dyadic, api.Errno) { return pattern(round.Root(f, d)) }),
			dyadicTwo("round.Quotient", func(a, b api.Dyadic) (api.Dyadic, api.Errno) { return pattern(round.Quotient(f, a, b)) }),
			spanOne("round.Decide", func(s api.Span) ([]limbs, api.Errno) {
				b, ok, e := round.Decide(f, s)
				return []limbs{nat.Word(b), flag(ok)}, e
			}),
		)
	}
	return out
}

func TestRoundingKeepsTheRules(t *testing.T) {
	allHold(t, roundCalls())
}

func TestRoundingOverlaps(t *testing.T) {
	overlap(t, roundCalls())
}

// ofPattern: the calls that have no list in their argument: what they answer is new memory, and the same again.
func ofPattern(f api.Format, b uint64) []call {
	return []call{
		{"binary.Value", 0, func([]limbs) ([]limbs, api.Errno) { return fields(binary.Value(f, b)) }},
		{"binary.Mid", 0, func([]limbs) ([]limbs, api.Errno) { return fields(binary.Mid(f, b)) }},
		{"round.Cell", 0, func([]limbs) ([]limbs, api.Errno) {
			s, inside, e := round.Cell(f, b)
			lists, _ := ends(s, e)
			return append(lists, flag(inside)), e
		}},
	}
}

func TestPatternsKeepTheRules(t *testing.T) {
	for _, f := range someFormats() {
		for _, b := range []uint64{0, 1, 0x7f7fffff, 0x7f800000, 0x80000001, 0xffffffff, 1 << 32, 1 << 63, 0x3ff0000000000001, 0xffefffffffffffff, 0x7ff0000000000000, 1<<64 - 1} {
			for _, c := range ofPattern(f, b) {
				holds(t, c, nil)
			}
		}
	}
}
