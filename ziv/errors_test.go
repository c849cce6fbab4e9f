package ziv_test

import (
	"math"
	"testing"

	"gnomon/api"
	"gnomon/oracle"
	"gnomon/ziv"
)

var noFunctions = [...]api.Fn{0, -1, 7, 8, 33, 260, 1<<32 + 1, math.MaxInt, math.MinInt}

var noPrecisions = [...]int{0, -1, -64, api.MaxRung + 1, api.MaxSeries, api.MaxPrec, 1 << 32, 1<<32 + 5, math.MaxInt, math.MinInt}

// words: patterns of each class, special cases among them, and what is none of Single.
func words() []uint64 {
	return append(oracle.NoPatterns(), 0, 1, 1<<31, 0x3f000000, 0x3f800000, 0x7f800000, 0x7fc00001, 0xffffffff, 0x7ff0000000000000, bitsOf(0.5))
}

func decideFails(t *testing.T, f api.Format, fn api.Fn, b uint64, p int, want api.Errno) {
	t.Helper()
	if got, ok, e := ziv.Decide(f, fn, b, p); got != 0 || ok || e != want {
		t.Errorf("Decide(%d, %d, %x, %d) is %x, %v, error %d; want %d", f, fn, b, p, got, ok, e, want)
	}
}

func climbFails(t *testing.T, f api.Format, fn api.Fn, b uint64, start, last int, want api.Errno) {
	t.Helper()
	if a, e := ziv.Climb(f, fn, b, start, last); a != (ziv.Answer{}) || e != want {
		t.Errorf("Climb(%d, %d, %x, %d, %d) is %v, error %d; want %d", f, fn, b, start, last, a, e, want)
	}
}

func valueFails(t *testing.T, f api.Format, fn api.Fn, b uint64, want api.Errno) {
	t.Helper()
	if got, ok, e := ziv.Value(f, fn, b); got != 0 || ok || e != want {
		t.Errorf("Value(%d, %d, %x) is %x, %v, error %d; want %d", f, fn, b, got, ok, e, want)
	}
}

// allFail: the three calls with all that is right of the rest.
func allFail(t *testing.T, f api.Format, fn api.Fn, b uint64, want api.Errno) {
	t.Helper()
	for _, p := range []int{1, 100, api.MaxRung} {
		decideFails(t, f, fn, b, p, want)
	}
	for _, l := range ladders {
		climbFails(t, f, fn, b, l[0], l[1], want)
	}
	valueFails(t, f, fn, b, want)
}

func TestErrors18_Examples(t *testing.T) {
	valueFails(t, api.Single, api.Sin, 0x100000000, api.ErrForm)
	decideFails(t, api.Double, api.Sin, 0, 0, api.ErrArg)
	climbFails(t, api.Double, 7, 0, 1, 1, api.ErrArg)
	climbFails(t, api.Double, api.Sin, 0, 9, 8, api.ErrArg)
}

func TestErrors18_Functions(t *testing.T) {
	for _, b := range words() {
		for _, fn := range noFunctions {
			for _, f := range append(oracle.NoFormats(), oracle.Formats()...) {
				allFail(t, f, fn, b, api.ErrArg)
			}
		}
	}
}

func TestErrors18_Formats(t *testing.T) {
	for _, b := range words() {
		for _, fn := range functions {
			for _, f := range oracle.NoFormats() {
				allFail(t, f, fn, b, api.ErrArg)
			}
		}
	}
}

func TestErrors18_Patterns(t *testing.T) {
	for _, b := range oracle.NoPatterns() {
		for _, fn := range functions {
			allFail(t, api.Single, fn, b, api.ErrForm)
		}
	}
}

// A wrong precision or ladder goes ahead of a pattern that is none, and is told beside all else that is wrong, in special cases too.
func TestErrors18_Precisions(t *testing.T) {
	for _, b := range words() {
		for _, fn := range append(functions[:], noFunctions[:]...) {
			for _, f := range append(oracle.NoFormats()[:3], oracle.Formats()...) {
				for _, p := range noPrecisions {
					decideFails(t, f, fn, b, p, api.ErrArg)
				}
				for _, l := range noLadders {
					climbFails(t, f, fn, b, l[0], l[1], api.ErrArg)
				}
			}
		}
	}
}
