package rules

import (
	"math"
	"slices"
	"testing"

	"gnomon/api"
	"gnomon/num"
)

// size: an answered whole number as a list. What breaks the rules for its sign becomes a list that breaks those for lists.
func size(x api.Int, e api.Errno) ([]limbs, api.Errno) {
	if e != api.OK && x.Neg {
		return []limbs{{1}}, e
	}
	if e == api.OK && !num.Form(x) {
		return []limbs{{0}}, e
	}
	return []limbs{x.Mag}, e
}

var signs = []bool{false, true}

func wholeOne(name string, f func(api.Int) (api.Int, api.Errno)) []call {
	var out []call
	for _, neg := range signs {
		out = append(out, call{name, 1, func(in []limbs) ([]limbs, api.Errno) {
			return size(f(api.Int{Neg: neg, Mag: in[0]}))
		}})
	}
	return out
}

func wholeTwo(name string, f func(x, y api.Int) (api.Int, api.Errno)) []call {
	var out []call
	for _, neg := range signs {
		for _, neg2 := range signs {
			out = append(out, call{name, 2, func(in []limbs) ([]limbs, api.Errno) {
				return size(f(api.Int{Neg: neg, Mag: in[0]}, api.Int{Neg: neg2, Mag: in[1]}))
			}})
		}
	}
	return out
}

func wholeShift(name string, f func(api.Int, int) (api.Int, api.Errno)) []call {
	var out []call
	for _, n := range []int{0, 1, 63, 64, 65, 1000, 524288, math.MaxInt, -1, math.MinInt} {
		out = append(out, wholeOne(name, func(x api.Int) (api.Int, api.Errno) { return f(x, n) })...)
	}
	return out
}

// small, order: the calls that answer a plain number, as a whole one, so that a number beside an error is seen.
func small(x api.Int) (api.Int, api.Errno) {
	n, e := num.Small(x)
	return num.Of(n), e
}

func order(x, y api.Int) (api.Int, api.Errno) {
	n, e := num.Cmp(x, y)
	return num.Of(n), e
}

func wholeCalls() []call {
	return slices.Concat(
		wholeOne("num.Neg", num.Neg), wholeOne("num.Small", small), wholeTwo("num.Cmp", order),
		wholeTwo("num.Add", num.Add), wholeTwo("num.Sub", num.Sub), wholeTwo("num.Mul", num.Mul),
		wholeTwo("num.FloorDiv", num.FloorDiv), wholeTwo("num.CeilDiv", num.CeilDiv), wholeTwo("num.NearDiv", num.NearDiv), wholeTwo("num.Mod", num.Mod),
		wholeShift("num.Shl", num.Shl), wholeShift("num.FloorShr", num.FloorShr), wholeShift("num.CeilShr", num.CeilShr), wholeShift("num.NearShr", num.NearShr),
	)
}

func TestWholesKeepTheRules(t *testing.T) {
	allHold(t, wholeCalls())
}

func TestWholesOverlap(t *testing.T) {
	overlap(t, wholeCalls())
}

func TestWholesAsked(t *testing.T) {
	for _, a := range lists() {
		for _, neg := range signs {
			list, memory := roomy(a)
			before := slices.Clone(memory)
			x := api.Int{Neg: neg, Mag: list}
			if num.Form(x) != num.Form(x) || num.Sign(x) != num.Sign(x) {
				t.Errorf("another answer to the same call")
			}
			if !slices.Equal(before, memory) {
				t.Errorf("an argument or its room was changed")
			}
		}
	}
	first := num.Of(-9)
	scribble(first.Mag)
	if again := num.Of(-9); !again.Neg || !slices.Equal(again.Mag, limbs{9}) {
		t.Errorf("Of answers memory that it has answered before")
	}
}
