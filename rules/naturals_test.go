// Package rules tests what DOC.md's section 'Rules that hold everywhere' and its promises P1 and P2 say of all calls alike: memory, the same answer again, nothing beside an error.
package rules

import (
	"math"
	"slices"
	"testing"

	"gnomon/api"
	"gnomon/nat"
	"gnomon/natdiv"
	"gnomon/natmul"
)

// limbs is short for a list of limbs.
type limbs = []uint64

// call is one call of a layer with all its plain numbers chosen: what is left are its lists.
type call struct {
	name  string
	lists int
	run   func(in []limbs) ([]limbs, api.Errno)
}

func one(name string, f func(limbs) (limbs, api.Errno)) call {
	return call{name, 1, func(in []limbs) ([]limbs, api.Errno) {
		a, e := f(in[0])
		return []limbs{a}, e
	}}
}

func two(name string, f func(a, b limbs) (limbs, api.Errno)) call {
	return call{name, 2, func(in []limbs) ([]limbs, api.Errno) {
		a, e := f(in[0], in[1])
		return []limbs{a}, e
	}}
}

func withInt(name string, f func(limbs, int) (limbs, api.Errno), ns ...int) []call {
	var out []call
	for _, n := range ns {
		out = append(out, one(name, func(a limbs) (limbs, api.Errno) { return f(a, n) }))
	}
	return out
}

func withWord(w uint64) []call {
	divide := call{"nat.DivWord", 1, func(in []limbs) ([]limbs, api.Errno) {
		q, r, e := nat.DivWord(in[0], w)
		if e != api.OK && r != 0 {
			return []limbs{{r}}, e
		}
		return []limbs{q}, e
	}}
	return []call{divide, one("nat.MulWord", func(a limbs) (limbs, api.Errno) { return nat.MulWord(a, w) })}
}

func parts(k int) call {
	return call{"natmul.Parts", 2, func(in []limbs) ([]limbs, api.Errno) {
		x, y, z, e := natmul.Parts(in[0], in[1], k)
		return []limbs{x, y, z}, e
	}}
}

func pair(name string, f func(in []limbs) (limbs, limbs, api.Errno), lists int) call {
	return call{name, lists, func(in []limbs) ([]limbs, api.Errno) {
		x, y, e := f(in)
		return []limbs{x, y}, e
	}}
}

func quotient(in []limbs) (limbs, limbs, api.Errno) { return natdiv.QuoRem(in[0], in[1]) }

func root(in []limbs) (limbs, limbs, api.Errno) { return natdiv.Root(in[0]) }

// text: the bytes of Text, one a limb (none of them is 0).
func text(a limbs) (limbs, api.Errno) {
	s, e := natdiv.Text(a)
	var out limbs
	for _, b := range []byte(s) {
		out = append(out, uint64(b))
	}
	return out, e
}

// read: Read of one digit a limb.
func read(a limbs) (limbs, api.Errno) {
	var s []byte
	for _, w := range a {
		s = append(s, '0'+byte(w%11))
	}
	return natdiv.Read(string(s))
}

func product(lists int) call {
	return call{"natmul.Product", lists, func(in []limbs) ([]limbs, api.Errno) {
		list := slices.Clone(in)
		a, e := natmul.Product(list...)
		if !sameAll(list, in) { // what stands at each place may not change either
			return []limbs{{1}}, api.ErrForm
		}
		return []limbs{a}, e
	}}
}

func naturalCalls() []call {
	out := []call{
		one("nat.Norm", nat.Norm), two("nat.Add", nat.Add), two("nat.Sub", nat.Sub),
		two("natmul.Mul", natmul.Mul), one("natmul.Sqr", natmul.Sqr),
		product(0), product(1), product(2),
		pair("natdiv.QuoRem", quotient, 2), pair("natdiv.Root", root, 1), one("natdiv.Text", text), one("natdiv.Read", read),
	}
	shifts := []int{0, 1, 63, 64, 65, 1000, 524288, math.MaxInt, -1, math.MinInt}
	out = append(out, withInt("nat.Shl", nat.Shl, shifts...)...)
	out = append(out, withInt("nat.Shr", nat.Shr, shifts...)...)
	out = append(out, withInt("nat.Low", nat.Low, shifts...)...)
	out = append(out, withInt("natmul.Pow", natmul.Pow, 0, 1, 2, 3, math.MaxInt, -1)...)
	for _, w := range []uint64{0, 1, 2, math.MaxUint64} {
		out = append(out, withWord(w)...)
	}
	for _, k := range []int{-1, 0, 1, 2, 100, 8192, 8193} {
		out = append(out, parts(k))
	}
	return out
}

const mark = 0xabcdabcdabcdabcd

// roomy: a copy of a with spare room behind it, and its whole memory.
func roomy(a limbs) (list, whole limbs) {
	whole = append(slices.Clone(a), mark, mark, mark)
	return whole[:len(a)], whole
}

// scribble turns bits about in a list and all its room. Twice is as good as never.
func scribble(a limbs) {
	whole := a[:cap(a)]
	for i := range whole {
		whole[i] ^= 0x5555555555555555
	}
}

func cloneAll(lists []limbs) []limbs {
	out := make([]limbs, len(lists))
	for i, a := range lists {
		out[i] = slices.Clone(a)
	}
	return out
}

func sameAll(a, b []limbs) bool {
	return slices.EqualFunc(a, b, func(x, y limbs) bool { return slices.Equal(x, y) })
}

// holds runs a call and looks whether it keeps the rules.
func holds(t *testing.T, c call, values []limbs) {
	t.Helper()
	in, memory := make([]limbs, c.lists), make([]limbs, c.lists)
	for i := range in {
		in[i], memory[i] = roomy(values[i])
	}
	before := cloneAll(memory)
	first, e := c.run(in)
	told := cloneAll(first)
	again, e2 := c.run(in)
	if e != e2 || !sameAll(told, again) {
		t.Errorf("%s: another answer to the same call", c.name)
	}
	if !sameAll(before, memory) {
		t.Errorf("%s: an argument or its room was changed", c.name)
	}
	for _, a := range first {
		if e != api.OK && len(a) != 0 {
			t.Errorf("%s: a list beside the error %d", c.name, e)
		}
		if e == api.OK && !nat.Form(a) {
			t.Errorf("%s: an answer that is not in form", c.name)
		}
	}
	for i := range first {
		scribble(first[i])
		if !sameAll(told[:i], first[:i]) || !sameAll(told[i+1:], first[i+1:]) {
			t.Errorf("%s: two lists of one answer share memory", c.name)
		}
		scribble(first[i]) // a second time: back to what it was
	}
	for _, a := range first {
		scribble(a)
	}
	if !sameAll(before, memory) {
		t.Errorf("%s: an answer shares memory with an argument", c.name)
	}
	for _, a := range memory {
		scribble(a)
	}
	if !sameAll(told, again) {
		t.Errorf("%s: an answer shares memory with an earlier one or with an argument", c.name)
	}
}

// lists: naturals short and long, and what is none.
func lists() []limbs {
	full := slices.Repeat(limbs{math.MaxUint64}, 8192)
	long := slices.Repeat(limbs{0x8000000000000001}, 130)
	return []limbs{nil, {}, {1}, {5, 7}, {0, 0, 1}, long, full, {0}, {5, 0}, append(slices.Clone(full), 1)}
}

// allHold runs each call at each list, or each pair of lists.
func allHold(t *testing.T, calls []call) {
	t.Helper()
	for _, c := range calls {
		for _, a := range lists() {
			if c.lists < 2 {
				holds(t, c, []limbs{a})
				continue
			}
			for _, b := range lists() {
				holds(t, c, []limbs{a, b})
			}
		}
	}
}

func TestNaturalsKeepTheRules(t *testing.T) {
	allHold(t, naturalCalls())
}

// The calls without a list in their answer, and Word, which has no list in its argument.
func TestNaturalsAsked(t *testing.T) {
	for _, a := range []limbs{nil, {0}, {0, 6, 0}, slices.Repeat(limbs{3}, 9000)} {
		list, whole := roomy(a)
		before := slices.Clone(whole)
		for range 2 {
			nat.Form(list)
			nat.Bits(list)
			nat.Trail(list)
			nat.Bit(list, math.MaxInt)
			nat.Bit(list, math.MinInt)
			if nat.Cmp(list, whole[:len(list):len(list)]) != 0 {
				t.Errorf("a list is not equal to itself")
			}
		}
		if !slices.Equal(before, whole) {
			t.Errorf("an argument or its room was changed")
		}
	}
	first := nat.Word(7)
	scribble(first)
	if !slices.Equal(nat.Word(7), limbs{7}) {
		t.Errorf("Word answers memory that it has answered before")
	}
	if one, _ := natmul.Product(); len(one) == 1 {
		scribble(one)
	}
	if one, _ := natmul.Pow(nil, 0); !slices.Equal(one, limbs{1}) {
		t.Errorf("Pow to 0 answers memory that was answered before")
	}
}

// overlap runs the calls of two lists at lists that overlap: these are as good as two apart.
func overlap(t *testing.T, calls []call) {
	t.Helper()
	for _, n := range []int{1, 3, 50, 200} {
		whole := slices.Repeat(limbs{math.MaxUint64, 3}, n)
		before := slices.Clone(whole)
		a, b := whole[:n+1], whole[n:]
		for _, c := range calls {
			if c.lists != 2 {
				continue
			}
			for _, in := range [][]limbs{{a, b}, {b, a}, {a, a}, {whole, a}} {
				got, e := c.run(in)
				want, e2 := c.run(cloneAll(in))
				if e != e2 || !sameAll(got, want) {
					t.Errorf("%s: lists that overlap have another answer", c.name)
				}
				if !slices.Equal(before, whole) {
					t.Fatalf("%s: an argument was changed", c.name)
				}
			}
		}
	}
}

func TestNaturalsOverlap(t *testing.T) {
	overlap(t, naturalCalls())
}
