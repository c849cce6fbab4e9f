package rules

import (
	"math"
	"slices"
	"testing"

	"gnomon/accept"
	"gnomon/api"
	"gnomon/nat"
	"gnomon/oracle"
	"gnomon/trig"
)

// accepted: the calls of layer 25 at a double-double.
func accepted(v api.DD) []call {
	var out []call
	for _, e := range []int{-100, -78, -56, -101, -55, 0, math.MaxInt, math.MinInt} {
		out = append(out, plain("accept.Accept", func() ([]limbs, api.Errno) {
			b, ok := accept.Accept(v, e)
			return certain(b, ok, api.OK)
		}))
	}
	return out
}

// someLibs: of both roads, and what is none.
func someLibs() []*trig.Lib {
	fast, _ := trig.New(trig.Fast)
	slow, _ := trig.New(trig.Slow)
	return []*trig.Lib{fast, slow, nil, {}}
}

// ofLib: the calls of a Lib at a pattern.
func ofLib(l *trig.Lib, b uint64) []call {
	ask := func(name string, f func(uint64) (uint64, bool)) call {
		return plain(name, func() ([]limbs, api.Errno) {
			bits, ok := f(b)
			return certain(bits, ok, api.OK)
		})
	}
	return []call{
		ask("trig.Sin", l.Sin), ask("trig.Cos", l.Cos), ask("trig.Tan", l.Tan),
		plain("trig.SinCos", func() ([]limbs, api.Errno) {
			sin, cos, ok := l.SinCos(b)
			return []limbs{nat.Word(sin), nat.Word(cos), flag(ok)}, api.OK
		}),
		plain("trig.Play", func() ([]limbs, api.Errno) {
			var out []limbs
			for _, r := range l.Play([]trig.Step{{Op: 1, B: b}, {Op: 4, B: b}, {Op: byte(b), B: b}}) {
				out = append(out, nat.Word(r.A), nat.Word(r.B), flag(r.OK))
			}
			return out, api.OK
		}),
	}
}

// ofFunction: the calls that choose the function at a pattern.
func ofFunction(fn api.Fn, b uint64) []call {
	out := []call{plain("trig.Quick", func() ([]limbs, api.Errno) { return certain(trig.Quick(fn, b)) })}
	for _, f := range someFormats() {
		out = append(out, plain("trig.Value", func() ([]limbs, api.Errno) { return certain(trig.Value(f, fn, b)) }))
	}
	return out
}

func roadCalls() []call {
	var out []call
	for _, x := range someFloats() {
		for _, y := range someFloats() {
			out = append(out, accepted(api.DD{Hi: x, Lo: y})...)
		}
	}
	for _, m := range []trig.Mode{trig.Fast, trig.Slow, 0, 3, math.MaxInt, math.MinInt} {
		out = append(out, plain("trig.New", func() ([]limbs, api.Errno) {
			l, e := trig.New(m)
			return []limbs{flag(l != nil)}, e
		}))
	}
	for i, b := range append(somePatterns(), oracle.Words(200)...) {
		for _, l := range someLibs() {
			out = append(out, ofLib(l, b)...)
		}
		if i%3 == 0 { // a third of them has all classes
			for _, fn := range allFunctions() {
				out = slices.Concat(out, ofFunction(fn, b), ofFunction(fn, b&0xffffffff))
			}
		}
	}
	return out
}

func TestRoadsKeepTheRules(t *testing.T) {
	for _, c := range roadCalls() {
		holds(t, c, nil)
	}
}

func TestRoadsAreToldAnew(t *testing.T) {
	toldAnew(t, roadCalls())
}
