package binary

import (
	"gnomon/api"
	"gnomon/layout"
)

// Rank: the steps from nought; below nought for negative ones.
func Rank(f api.Format, b uint64) (int, api.Errno) {
	p, e := ranked(f, b)
	if e != api.OK {
		return 0, e
	}
	if p.neg {
		return -int(p.size), api.OK
	}
	return int(p.size), api.OK
}

// Ranked: the pattern of a rank.
func Ranked(f api.Format, n int) (uint64, api.Errno) {
	w, e := layout.Of(f)
	if e != api.OK {
		return 0, e
	}
	size := uint64(n)
	if n < 0 {
		// The word's own wrap-round gives the size of the least int too, which no int has.
		size = -size
	}
	if size > w.Infinity() {
		return 0, api.ErrArg
	}
	return w.Signed(n < 0, size), api.OK
}

// Next: the next greater pattern.
func Next(f api.Format, b uint64) (uint64, api.Errno) { return step(f, b, false) }

// Prev: the next smaller pattern.
func Prev(f api.Format, b uint64) (uint64, api.Errno) { return step(f, b, true) }

// step: the neighbour on the way down, or up. Its sign is that of b, also where it is a nought: only a step that leaves a nought takes the sign of its way.
func step(f api.Format, b uint64, down bool) (uint64, api.Errno) {
	p, e := ranked(f, b)
	if e != api.OK {
		return 0, e
	}
	outward := p.neg == down
	switch {
	case outward && p.class() == Infinite:
		return 0, api.ErrClass
	case p.size == 0:
		return p.Signed(down, 1), api.OK
	case outward:
		return b + 1, api.OK
	}
	return b - 1, api.OK
}
