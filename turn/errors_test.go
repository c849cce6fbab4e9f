package turn_test

import (
	"math"
	"testing"

	"gnomon/api"
	"gnomon/oracle"
	"gnomon/turn"
)

var noFunctions = [...]api.Fn{0, -1, api.Sin, api.Cos, api.Tan, 7, 260, 1<<32 + 4, math.MaxInt, math.MinInt}

// none: patterns that have no number.
func none() []uint64 {
	infinity := oracle.Infinity(api.Double)
	return append(oracle.NaNs(api.Double), infinity, oracle.Minus(api.Double, infinity))
}

// encloseFails looks whether Enclose answers that error alone.
func encloseFails(t *testing.T, fn api.Fn, b uint64, p int, want api.Errno) {
	t.Helper()
	if s, e := turn.Enclose(fn, b, p); e != want || !point(s, 0) {
		t.Errorf("Enclose(%d, %x, %d) is %s, error %d", fn, b, p, oracle.TellSpan(s), e)
	}
}

func exactFails(t *testing.T, f api.Format, fn api.Fn, b uint64, want api.Errno) {
	t.Helper()
	if got, ok, e := turn.Exact(f, fn, b); got != 0 || ok || e != want {
		t.Errorf("Exact(%d, %d, %x) is %x, %v, error %d", f, fn, b, got, ok, e)
	}
}

func TestErrors17_Reduce(t *testing.T) {
	for _, b := range none() {
		if q, r, e := turn.Reduce(b); q != 0 || !oracle.Same(r, api.Dyadic{}) || e != api.ErrClass {
			t.Errorf("Reduce(%x) is %d, %s, error %d", b, q, oracle.Tell(r), e)
		}
	}
}

func TestErrors17_Exact(t *testing.T) {
	words := append(oracle.NoPatterns(), 0, 1, 0x3f800000, 0x7f800000, oracle.Infinity(api.Double), bitsOf(0.5))
	for _, b := range words {
		for _, fn := range noFunctions {
			for _, f := range append(oracle.NoFormats(), oracle.Formats()...) {
				exactFails(t, f, fn, b, api.ErrArg)
			}
		}
		for _, fn := range functions {
			for _, f := range oracle.NoFormats() {
				exactFails(t, f, fn, b, api.ErrArg)
			}
		}
	}
	for _, b := range oracle.NoPatterns() {
		for _, fn := range functions {
			exactFails(t, api.Single, fn, b, api.ErrForm)
		}
	}
}

func TestErrors17_Enclose(t *testing.T) {
	poles := []uint64{bitsOf(0.5), bitsOf(-0.5), bitsOf(1.5), bitsOf(-2.5), bitsOf(0x1p52 - 0.5)}
	words := append(append(none(), poles...), 0, 1<<63, 1, bitsOf(0.25), bitsOf(0.3), bitsOf(1))
	for _, b := range words {
		for _, fn := range noFunctions {
			for _, p := range []int{-1, 0, 1, 50, api.MaxRung, api.MaxRung + 1} {
				encloseFails(t, fn, b, p, api.ErrArg)
			}
		}
		for _, fn := range functions {
			for _, p := range []int{0, -1, -64, api.MaxRung + 1, api.MaxSeries, api.MaxPrec, 1 << 32, 1<<32 + 5, math.MaxInt, math.MinInt} {
				encloseFails(t, fn, b, p, api.ErrArg)
			}
		}
	}
	for _, p := range []int{1, 7, 500, api.MaxRung} {
		for _, b := range none() {
			for _, fn := range functions {
				encloseFails(t, fn, b, p, api.ErrClass)
			}
		}
		for _, b := range poles {
			encloseFails(t, api.TanPi, b, p, api.ErrClass)
		}
	}
}
