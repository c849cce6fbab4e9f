package soft_test

import (
	"slices"
	"testing"

	"gnomon/api"
	"gnomon/oracle"
	"gnomon/soft"
)

const (
	single = api.Single
	double = api.Double
)

// op is a call with its patterns in a list, so that all calls are tried alike.
type op struct {
	name   string
	places int
	call   func(f api.Format, in []uint64) (uint64, api.Errno)
}

func one(name string, g func(api.Format, uint64) (uint64, api.Errno)) op {
	return op{name, 1, func(f api.Format, in []uint64) (uint64, api.Errno) { return g(f, in[0]) }}
}

func two(name string, g func(f api.Format, a, b uint64) (uint64, api.Errno)) op {
	return op{name, 2, func(f api.Format, in []uint64) (uint64, api.Errno) { return g(f, in[0], in[1]) }}
}

var (
	add, sub, mul, div = two("Add", soft.Add), two("Sub", soft.Sub), two("Mul", soft.Mul), two("Div", soft.Div)
	root, neg, abs     = one("Sqrt", soft.Sqrt), one("Neg", soft.Neg), one("Abs", soft.Abs)
	fma                = op{"Fma", 3, func(f api.Format, in []uint64) (uint64, api.Errno) { return soft.Fma(f, in[0], in[1], in[2]) }}
	// order: what Compare answers, as a word that wraps.
	order = two("Compare", func(f api.Format, a, b uint64) (uint64, api.Errno) {
		n, e := soft.Compare(f, a, b)
		return uint64(n), e
	})
	// arithmetic: the calls that answer patterns.
	arithmetic = []op{add, sub, mul, div, root, fma, neg, abs}
)

const (
	below = ^uint64(0) // what order tells for -1
	same  = 0
	above = 1
	none  = 2
)

func (o op) is(t *testing.T, f api.Format, want uint64, in ...uint64) {
	t.Helper()
	if got, e := o.call(f, in); got != want || e != api.OK {
		t.Errorf("%s(%d, %x) = %x, error %d, want %x", o.name, f, in, got, e, want)
	}
}

// fails: the error, and nothing beside it.
func (o op) fails(t *testing.T, f api.Format, e api.Errno, in ...uint64) {
	t.Helper()
	if got, fault := o.call(f, in); got != 0 || fault != e {
		t.Errorf("%s(%d, %x) = %x, error %d, want error %d", o.name, f, in, got, fault, e)
	}
}

func quiet(f api.Format) uint64 {
	if f == single {
		return 0x7fc00001
	}
	return 0x7ff8000000000001
}

// patterns: all kinds of a format's patterns.
func patterns(f api.Format) []uint64 {
	end := oracle.Infinity(f)
	return slices.Concat(oracle.Finite(f), oracle.NaNs(f), []uint64{end, oracle.Minus(f, end)})
}

// edges: both noughts, both infinities, and the numbers at the edges of the classes, of both signs.
func edges(f api.Format) []uint64 {
	least, end, one := leastNormal(f), oracle.Infinity(f), oracle.Bits(f, 1)
	var out []uint64
	for _, b := range []uint64{0, 1, 2, 3, least - 1, least, least + 1, oracle.Bits(f, 0.5), one - 1, one, one + 1, oracle.Bits(f, 3), end - 2, end - 1, end} {
		out = append(out, b, oracle.Minus(f, b))
	}
	return out
}

func leastNormal(f api.Format) uint64 {
	if f == single {
		return 1 << 23
	}
	return 1 << 52
}

func TestExamples(t *testing.T) {
	for _, c := range []struct {
		op
		f    api.Format
		want uint64
		in   []uint64
	}{
		{add, double, 0x4000000000000000, []uint64{0x3ff0000000000000, 0x3ff0000000000000}},
		{add, double, 2, []uint64{1, 1}},
		{add, double, 0x3ff0000000000000, []uint64{0x3ff0000000000000, 0x3ca0000000000000}},
		{add, double, 0x3ff0000000000002, []uint64{0x3ff0000000000001, 0x3ca0000000000000}},
		{add, double, 0x7ff0000000000000, []uint64{0x7fefffffffffffff, 0x7fefffffffffffff}},
		{add, double, 0x7ff0000000000000, []uint64{0x7fefffffffffffff, 0x7c90000000000000}},
		{add, double, 0x7fefffffffffffff, []uint64{0x7fefffffffffffff, 0x7c8fffffffffffff}},
		{add, double, 0, []uint64{0x3ff0000000000000, 0xbff0000000000000}},
		{add, double, 0x8000000000000000, []uint64{0x8000000000000000, 0x8000000000000000}},
		{add, double, 0, []uint64{0x8000000000000000, 0}},
		{sub, double, 0, []uint64{0, 0}},
		{sub, double, 0x8000000000000000, []uint64{0x8000000000000000, 0}},
		{add, double, 0x7ff8000000000001, []uint64{0x7ff0000000000000, 0xfff0000000000000}},
		{add, double, 0x7ff8000000000001, []uint64{0x7ff0000000000002, 0}},
		{neg, double, 0x7ff8000000000001, []uint64{0xfff8000000000000}},
		{mul, double, 0, []uint64{1, 0x3fe0000000000000}},
		{mul, double, 2, []uint64{3, 0x3fe0000000000000}},
		{mul, double, 0x8000000000000000, []uint64{0x8000000000000001, 0x3fe0000000000000}},
		{mul, double, 0x7ff8000000000001, []uint64{0x7ff0000000000000, 0}},
		{div, single, 0x3eaaaaab, []uint64{0x3f800000, 0x40400000}},
		{div, double, 0xfff0000000000000, []uint64{0x3ff0000000000000, 0x8000000000000000}},
		{div, double, 0x7ff8000000000001, []uint64{0, 0}},
		{root, double, 0x3ff6a09e667f3bcd, []uint64{0x4000000000000000}},
		{root, double, 0x8000000000000000, []uint64{0x8000000000000000}},
		{root, double, 0x7ff8000000000001, []uint64{0x8000000000000001}},
		{fma, double, 0x3970000000000000, []uint64{0x3ff0000000000001, 0x3ff0000000000001, 0xbff0000000000002}},
		{fma, double, 0x7ff8000000000001, []uint64{0x7ff0000000000000, 0, 0x3ff0000000000000}},
		{fma, double, 0x8000000000000000, []uint64{0, 0xbff0000000000000, 0x8000000000000000}},
		{fma, double, 0, []uint64{0, 0xbff0000000000000, 0}},
		{order, double, same, []uint64{0x8000000000000000, 0}},
		{order, double, none, []uint64{0x7ff8000000000000, 0x7ff8000000000000}},
		{order, double, below, []uint64{0xfff0000000000000, 0}},
	} {
		c.is(t, c.f, c.want, c.in...)
	}
	div.fails(t, single, api.ErrForm, 0x3f800000, 0x100000000)
	order.fails(t, 7, api.ErrArg, 0, 0)
}

// at: a list of b alone, but for the pattern other at one place.
func at(places, place int, b, other uint64) []uint64 {
	in := slices.Repeat([]uint64{b}, places)
	in[place] = other
	return in
}

func TestErrFormInEachPlace(t *testing.T) {
	for _, o := range append(arithmetic, order) {
		for place := range o.places {
			for _, wrong := range oracle.NoPatterns() {
				for _, b := range []uint64{0, 0x3f800000, 0x7f800000, 0xff800001, wrong} {
					o.fails(t, single, api.ErrForm, at(o.places, place, b, wrong)...)
				}
			}
		}
	}
}

// A word is a pattern of Double, whatever it is.
func TestDoubleTakesEachWord(t *testing.T) {
	for _, o := range append(arithmetic, order) {
		for _, b := range oracle.NoPatterns() {
			if _, e := o.call(double, at(o.places, 0, b, b)); e != api.OK {
				t.Errorf("%s of %x: error %d", o.name, b, e)
			}
		}
	}
}

func TestErrArgGoesAhead(t *testing.T) {
	for _, o := range append(arithmetic, order) {
		for _, f := range oracle.NoFormats() {
			for place := range o.places {
				for _, other := range append(oracle.NoPatterns(), 0, 0x3f800000, 0x7fc00001, 0x7ff8000000000001) {
					o.fails(t, f, api.ErrArg, at(o.places, place, 0x3f800000, other)...)
				}
			}
		}
	}
}
