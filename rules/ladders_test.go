package rules

import (
	"math"
	"slices"
	"testing"

	"gnomon/api"
	"gnomon/nat"
	"gnomon/ziv"
)

// certain: a pattern and whether it is certain, as lists.
func certain(b uint64, ok bool, e api.Errno) ([]limbs, api.Errno) {
	return []limbs{nat.Word(b), flag(ok)}, e
}

// climbed: an answer's fields, as lists.
func climbed(a ziv.Answer, e api.Errno) ([]limbs, api.Errno) {
	return []limbs{nat.Word(a.Bits), flag(a.OK), nat.Word(uint64(a.Rung))}, e
}

// ladderBounds: starts and lasts of ladders, and what makes none.
func ladderBounds() [][2]int {
	return [][2]int{{1, 1}, {1, 64}, {100, 399}, {api.Start, api.Cap}, {0, 8}, {9, 8}, {8, api.MaxRung + 1}, {math.MinInt, math.MaxInt}, {math.MaxInt, math.MaxInt}}
}

func ladderCalls(f api.Format, fn api.Fn, b uint64) []call {
	out := []call{plain("ziv.Value", func() ([]limbs, api.Errno) { return certain(ziv.Value(f, fn, b)) })}
	for _, p := range []int{0, 1, 60, 300, api.MaxRung + 1, math.MaxInt, math.MinInt} {
		out = append(out, plain("ziv.Decide", func() ([]limbs, api.Errno) { return certain(ziv.Decide(f, fn, b, p)) }))
	}
	for _, l := range ladderBounds() {
		out = append(out, plain("ziv.Climb", func() ([]limbs, api.Errno) { return climbed(ziv.Climb(f, fn, b, l[0], l[1])) }))
	}
	return out
}

func allLadderCalls() []call {
	var out []call
	for i, b := range somePatterns() {
		if i%3 == 0 { // a third of them has all classes
			for _, fn := range allFunctions() {
				for _, f := range someFormats() {
					out = slices.Concat(out, ladderCalls(f, fn, b), ladderCalls(f, fn, b&0xffffffff))
				}
			}
		}
	}
	for _, l := range ladderBounds() {
		out = append(out, plain("ziv.Ladder", func() ([]limbs, api.Errno) {
			var rungs limbs
			for r := range ziv.Ladder(l[0], l[1]) {
				rungs = append(rungs, uint64(r))
			}
			return []limbs{rungs}, api.OK
		}))
	}
	return out
}

func TestLaddersKeepTheRules(t *testing.T) {
	for _, c := range allLadderCalls() {
		holds(t, c, nil)
	}
}

func TestLaddersAreToldAnew(t *testing.T) {
	toldAnew(t, allLadderCalls())
}
