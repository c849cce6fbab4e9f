package payne_test

import (
	"math"
	"math/big"
	"testing"

	"gnomon/api"
	"gnomon/oracle"
	"gnomon/payne"
	"gnomon/piconst"
)

func wordIs(t *testing.T, i int, want uint64, e api.Errno) {
	t.Helper()
	if got, err := payne.Word(i); got != want || err != e {
		t.Errorf("Word(%d) is %x, error %d; want %x, error %d", i, got, err, want, e)
	}
}

func TestP21_1_Examples(t *testing.T) {
	wordIs(t, 0, 0xa2f9836e4e441529, api.OK)
	wordIs(t, 1, 0xfc2757d1f534ddc0, api.OK)
	wordIs(t, 20, 0, api.ErrArg)
	wordIs(t, -1, 0, api.ErrArg)
}

func TestP21_1_Words(t *testing.T) {
	floor, _ := piconst.FloorInv(64 * api.PiWords)
	other := oracle.Natural(oracle.TwoByPi(64 * api.PiWords))
	for i := range api.PiWords {
		wordIs(t, i, floor[api.PiWords-1-i], api.OK)
		wordIs(t, i, other[api.PiWords-1-i], api.OK)
		short, _ := piconst.FloorInv(64 * (i + 1))
		wordIs(t, i, short[0], api.OK)
	}
}

func TestP21_1_Errors(t *testing.T) {
	for _, i := range []int{-1, -2, -64, math.MinInt, math.MinInt + 1, api.PiWords, api.PiWords + 1, 64, 1 << 32, math.MaxInt} {
		wordIs(t, i, 0, api.ErrArg)
	}
}

func windowIs(t *testing.T, at int, want [4]uint64, e api.Errno) {
	t.Helper()
	if got, err := payne.Window(at); got != want || err != e {
		t.Errorf("Window(%d) is %x, error %d; want %x, error %d", at, got, err, want, e)
	}
}

func TestP21_2_Examples(t *testing.T) {
	windowIs(t, 0, [4]uint64{0xa2f9836e4e441529, 0xfc2757d1f534ddc0, 0xdb6295993c439041, 0xfe5163abdebbc561}, api.OK)
	windowIs(t, 4, [4]uint64{0x2f9836e4e441529f, 0xc2757d1f534ddc0d, 0xb6295993c439041f, 0xe5163abdebbc561b}, api.OK)
	windowIs(t, 1025, [4]uint64{}, api.ErrArg)
	windowIs(t, -1, [4]uint64{}, api.ErrArg)
}

// four: the lower 256 bits of x, the word with the greatest value first.
func four(x *big.Int) [4]uint64 {
	var out [4]uint64
	for i := range out {
		out[i] = new(big.Int).Rsh(x, uint(64*(3-i))).Uint64() // Uint64 tells the lower 64 bits of a greater one
	}
	return out
}

func TestP21_2_EveryPlace(t *testing.T) {
	all := new(big.Int)
	for i := range api.PiWords {
		w, _ := payne.Word(i)
		all.Lsh(all, 64).Or(all, new(big.Int).SetUint64(w))
	}
	for at := range 1025 {
		windowIs(t, at, four(new(big.Int).Rsh(all, uint(1024-at))), api.OK)
		floor, _ := piconst.FloorInv(at + 256)
		windowIs(t, at, four(oracle.Number(floor)), api.OK)
	}
}

func TestP21_2_Errors(t *testing.T) {
	for _, at := range []int{-1, -64, math.MinInt, math.MinInt + 1, 1025, 1088, 1280, 1 << 32, math.MaxInt - 255, math.MaxInt} {
		windowIs(t, at, [4]uint64{}, api.ErrArg)
	}
}

// What is answered is the caller's own.
func TestP21_2_WindowsAreCopies(t *testing.T) {
	first, _ := payne.Window(0)
	first[0], first[3] = 0, 0
	wordIs(t, 0, 0xa2f9836e4e441529, api.OK)
	again, _ := payne.Window(0)
	if again == first {
		t.Errorf("a window that was written over is answered again")
	}
}
