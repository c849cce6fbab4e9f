package limb

import (
	"slices"
	"testing"
)

const m = 1<<64 - 1

func TestTrim(t *testing.T) {
	for _, c := range []struct{ a, want []uint64 }{
		{nil, nil},
		{[]uint64{0, 0}, nil},
		{[]uint64{0, 1}, []uint64{0, 1}},
		{[]uint64{5, 0, 0}, []uint64{5}},
	} {
		got := Trim(c.a)
		if !slices.Equal(got, c.want) || cap(got) != len(got) {
			t.Errorf("Trim(%v) = %v with room for %d, want %v and no more room", c.a, got, cap(got), c.want)
		}
	}
}

func TestCutPiecesStayApart(t *testing.T) {
	whole := []uint64{1, 2, 3, 4}
	low, high := Cut(whole[:3], 2)
	if !slices.Equal(low, []uint64{1, 2}) || !slices.Equal(high, []uint64{3}) {
		t.Fatalf("Cut = %v, %v", low, high)
	}
	_, _ = append(low, 90), append(high, 91)
	if !slices.Equal(whole, []uint64{1, 2, 3, 4}) {
		t.Errorf("an append to a piece wrote into %v", whole)
	}
}

func TestAddAndSub(t *testing.T) {
	for _, c := range []struct {
		z, a, sum []uint64
		carry     uint64
	}{
		{nil, nil, nil, 0},
		{[]uint64{7, 8}, nil, []uint64{7, 8}, 0},
		{[]uint64{m, 5}, []uint64{1}, []uint64{0, 6}, 0},
		{[]uint64{m, m, m}, []uint64{1}, []uint64{0, 0, 0}, 1},
		{[]uint64{m, m, 3, 9}, []uint64{1}, []uint64{0, 0, 4, 9}, 0},
		{[]uint64{m, m}, []uint64{m, m}, []uint64{m - 1, m}, 1},
	} {
		z := slices.Clone(c.z)
		if carry := Add(z, c.a); carry != c.carry || !slices.Equal(z, c.sum) {
			t.Errorf("Add(%v, %v): %v, carry %d, want %v, %d", c.z, c.a, z, carry, c.sum, c.carry)
		}
		if borrow := Sub(z, c.a); borrow != c.carry || !slices.Equal(z, c.z) {
			t.Errorf("Sub(%v, %v): %v, borrow %d, want %v, %d", c.sum, c.a, z, borrow, c.z, c.carry)
		}
	}
}

func TestAddMul(t *testing.T) {
	for _, c := range []struct {
		z, a []uint64
		w    uint64
		want []uint64
		out  uint64
	}{
		{[]uint64{4, 9}, nil, m, []uint64{4, 9}, 0},
		{[]uint64{4, 9}, []uint64{5}, 3, []uint64{19, 9}, 0},
		{[]uint64{m}, []uint64{m}, m, []uint64{0}, m},
		{[]uint64{m, m, 7}, []uint64{m, m}, m, []uint64{0, m, 7}, m},
		{[]uint64{1, 2}, []uint64{m, m}, 0, []uint64{1, 2}, 0},
	} {
		z := slices.Clone(c.z)
		if out := AddMul(z, c.a, c.w); out != c.out || !slices.Equal(z, c.want) {
			t.Errorf("AddMul(%v, %v, %d): %v, carry %d, want %v, %d", c.z, c.a, c.w, z, out, c.want, c.out)
		}
	}
}

func TestSubMulUndoesAddMul(t *testing.T) {
	for _, c := range []struct {
		z, a []uint64
		w    uint64
	}{
		{[]uint64{4, 9}, nil, m},
		{[]uint64{4, 9}, []uint64{5}, 3},
		{[]uint64{0}, []uint64{m}, m},
		{[]uint64{m, m, 7}, []uint64{m, m}, m},
		{[]uint64{0, 0, 7}, []uint64{m, m}, m},
		{[]uint64{1, 2}, []uint64{m, m}, 0},
		{[]uint64{0, 0, 0}, []uint64{1, 0, 1 << 63}, 2},
	} {
		z := slices.Clone(c.z)
		carry := AddMul(z, c.a, c.w)
		if borrow := SubMul(z, c.a, c.w); borrow != carry || !slices.Equal(z, c.z) {
			t.Errorf("SubMul of %v * %d: %v, borrow %d, want %v, %d", c.a, c.w, z, borrow, c.z, carry)
		}
	}
}

func TestShifts(t *testing.T) {
	for _, c := range []struct {
		low, high []uint64
		n         int
	}{
		{nil, nil, 5},
		{[]uint64{m, 7}, []uint64{m, 7}, 0},
		{[]uint64{m, 1}, []uint64{m - 1, 3}, 1},
		{[]uint64{m, 0}, []uint64{1 << 63, m >> 1}, 63},
		{[]uint64{1, 2, 0}, []uint64{1 << 32, 2 << 32, 0}, 32},
	} {
		z := slices.Clone(c.low)
		if ShiftUp(z, c.n); !slices.Equal(z, c.high) {
			t.Errorf("%v up by %d: %v, want %v", c.low, c.n, z, c.high)
		}
		if ShiftDown(z, c.n); !slices.Equal(z, c.low) {
			t.Errorf("%v down by %d: %v, want %v", c.high, c.n, z, c.low)
		}
	}
	z := []uint64{m, m}
	if ShiftUp(z, 4); !slices.Equal(z, []uint64{m - 15, m}) {
		t.Errorf("what is moved out at the end stays: %v", z)
	}
	if ShiftDown(z, 60); !slices.Equal(z, []uint64{m, 15}) {
		t.Errorf("what is moved out at the beginning stays: %v", z)
	}
}
