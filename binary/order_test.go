package binary_test

import (
	"math"
	"testing"

	"gnomon/api"
	"gnomon/binary"
	"gnomon/oracle"
)

func TestP7_5_Examples(t *testing.T) {
	for _, c := range []struct {
		f    api.Format
		b    uint64
		want int
	}{
		{double, 0xBFF0000000000000, -0x3FF0000000000000}, {double, 1 << 63, 0}, {double, 0, 0}, {single, 1 << 31, 0}, {double, 0x7FF0000000000000, 0x7FF0000000000000}, {double, 0xFFF0000000000000, -0x7FF0000000000000}, {single, 0x7F800000, 0x7F800000}, {single, 0xFF800000, -0x7F800000}, {single, 1, 1}, {single, 0x80000001, -1},
	} {
		of(binary.Rank(c.f, c.b)).is(t, "Rank", c.f, c.b, uint64(c.want), api.OK)
	}
	for _, c := range []struct {
		f    api.Format
		n    int
		want uint64
	}{
		{single, -1, 0x80000001}, {single, 1, 1}, {single, 0, 0}, {double, 0, 0}, {single, 0x7F800000, 0x7F800000}, {single, -0x7F800000, 0xFF800000}, {double, 0x7FF0000000000000, 0x7FF0000000000000}, {double, -0x7FF0000000000000, 0xFFF0000000000000},
	} {
		of(binary.Ranked(c.f, c.n)).is(t, "Ranked", c.f, uint64(c.n), c.want, api.OK)
	}
}

// ranked: all kinds of patterns but NaNs.
func ranked(f api.Format) []uint64 {
	end := oracle.Infinity(f)
	return append(oracle.Finite(f), end, oracle.Minus(f, end))
}

func TestP7_5_RanksAreInOrder(t *testing.T) {
	for _, f := range oracle.Formats() {
		for _, b := range ranked(f) {
			n, e := binary.Rank(f, b)
			if x := oracle.Float(f, b); e != api.OK || n < 0 && x >= 0 || n == 0 && x != 0 || n > 0 && x <= 0 {
				t.Errorf("Rank(%d, %#x) = %d, error %d", f, b, n, e)
			}
			want := b
			if n == 0 {
				want = 0
			}
			of(binary.Ranked(f, n)).is(t, "Ranked", f, uint64(n), want, api.OK)
			for _, c := range ranked(f) {
				if m, _ := binary.Rank(f, c); (n < m) != (oracle.Float(f, b) < oracle.Float(f, c)) {
					t.Errorf("of %d, the ranks of %#x and %#x are not in their numbers' order", f, b, c)
				}
			}
		}
	}
}

func TestP7_5_Wrong(t *testing.T) {
	for _, f := range oracle.Formats() {
		for _, b := range oracle.NaNs(f) {
			of(binary.Rank(f, b)).fails(t, "Rank", f, b, api.ErrClass)
		}
		end := int(oracle.Infinity(f))
		for _, n := range []int{end + 1, -end - 1, most, lowest, lowest + 1} {
			of(binary.Ranked(f, n)).fails(t, "Ranked", f, uint64(n), api.ErrArg)
		}
	}
	for _, f := range oracle.NoFormats() {
		for _, n := range []int{0, 1, most, lowest} {
			of(binary.Ranked(f, n)).fails(t, "Ranked", f, uint64(n), api.ErrArg)
		}
	}
}

func TestP7_6_Examples(t *testing.T) {
	for _, c := range []struct {
		f             api.Format
		b, prev, next uint64
	}{
		{double, 1<<63 + 1, 1<<63 + 2, 1 << 63}, {double, 1 << 63, 1<<63 + 1, 1}, {double, 0, 1<<63 + 1, 1}, {double, 1, 0, 2}, {single, 1, 0, 2}, {single, 1<<31 + 1, 1<<31 + 2, 1 << 31}, {single, 0, 1<<31 + 1, 1}, {single, 1 << 31, 1<<31 + 1, 1}, {single, 0x7F7FFFFF, 0x7F7FFFFE, 0x7F800000}, {single, 0xFF7FFFFF, 0xFF800000, 0xFF7FFFFE}, {double, 0x3FF0000000000000, 0x3FEFFFFFFFFFFFFF, 0x3FF0000000000001}, {double, 0xBFF0000000000000, 0xBFF0000000000001, 0xBFEFFFFFFFFFFFFF},
	} {
		of(binary.Next(c.f, c.b)).is(t, "Next", c.f, c.b, c.next, api.OK)
		of(binary.Prev(c.f, c.b)).is(t, "Prev", c.f, c.b, c.prev, api.OK)
	}
	for _, f := range oracle.Formats() {
		end := oracle.Infinity(f)
		of(binary.Prev(f, end)).is(t, "Prev of the infinity", f, end, end-1, api.OK)
		of(binary.Next(f, end)).fails(t, "Next of the infinity", f, end, api.ErrClass)
		other := oracle.Minus(f, end)
		of(binary.Next(f, other)).is(t, "Next of the infinity with a sign", f, other, other-1, api.OK)
		of(binary.Prev(f, other)).fails(t, "Prev of the infinity with a sign", f, other, api.ErrClass)
	}
}

// towards: the neighbour on the way to an infinity, by the library.
func towards(f api.Format, b uint64, sign int) uint64 {
	if f == single {
		return uint64(math.Float32bits(math.Nextafter32(math.Float32frombits(uint32(b)), float32(math.Inf(sign)))))
	}
	return math.Float64bits(math.Nextafter(math.Float64frombits(b), math.Inf(sign)))
}

func TestP7_6_ByTheLibrary(t *testing.T) {
	for _, f := range oracle.Formats() {
		for _, b := range oracle.Finite(f) {
			of(binary.Next(f, b)).is(t, "Next", f, b, towards(f, b, 1), api.OK)
			of(binary.Prev(f, b)).is(t, "Prev", f, b, towards(f, b, -1), api.OK)
		}
	}
}

func TestP7_1_and_5_and_6_Wrong(t *testing.T) {
	fails := func(f api.Format, b uint64, e api.Errno) {
		t.Helper()
		of(binary.ClassOf(f, b)).fails(t, "ClassOf", f, b, e)
		of(binary.Rank(f, b)).fails(t, "Rank", f, b, e)
		of(binary.Next(f, b)).fails(t, "Next", f, b, e)
		of(binary.Prev(f, b)).fails(t, "Prev", f, b, e)
	}
	for _, b := range oracle.NoPatterns() {
		fails(single, b, api.ErrForm)
	}
	for _, f := range oracle.NoFormats() {
		for _, b := range append(oracle.NoPatterns(), 0, 1, 1<<31, 0x7FC00001, 0x7FF8000000000001) {
			fails(f, b, api.ErrArg)
		}
	}
	for _, f := range oracle.Formats() {
		for _, b := range oracle.NaNs(f) {
			of(binary.Next(f, b)).fails(t, "Next", f, b, api.ErrClass)
			of(binary.Prev(f, b)).fails(t, "Prev", f, b, api.ErrClass)
		}
	}
}
