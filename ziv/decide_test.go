package ziv_test

import (
	"strconv"
	"testing"

	"gnomon/api"
	"gnomon/oracle"
	"gnomon/ziv"
)

// decides looks whether a rung answers what it may answer, and whether it is certain where it must be.
func (a asked) decides(t *testing.T, p int) {
	t.Helper()
	got, ok, e := ziv.Decide(a.f, a.fn, a.b, p)
	switch {
	case e != api.OK:
		t.Errorf("Decide(%d, %d, %x, %d): error %d", a.f, a.fn, a.b, p, e)
	case ok && got != a.want:
		t.Errorf("Decide(%d, %d, %x, %d) is %x, true; want %x", a.f, a.fn, a.b, p, got, a.want)
	case !ok && got != 0:
		t.Errorf("Decide(%d, %d, %x, %d) is %x beside false", a.f, a.fn, a.b, p, got)
	case !ok && a.value.Clear(a.f, p):
		t.Errorf("Decide(%d, %d, %x, %d) is not certain, but must be", a.f, a.fn, a.b, p)
	}
}

func TestP18_3_Decide(t *testing.T) {
	for _, f := range oracle.Formats() {
		for _, p := range []int{1, 2, 3, 7, 23, 24, 25, 40, 52, 53, 54, 60, 100, 128, 200, 700} {
			t.Run(strconv.Itoa(int(f))+" "+strconv.Itoa(p), func(t *testing.T) {
				t.Parallel()
				for _, a := range questions[f]() {
					a.decides(t, p)
				}
			})
		}
	}
}

// The least precision at which a rung must be certain, and those beside it.
func TestP18_3_Enough(t *testing.T) {
	for _, f := range oracle.Formats() {
		for part := range 4 {
			t.Run(strconv.Itoa(int(f))+" "+strconv.Itoa(part), func(t *testing.T) {
				t.Parallel()
				for i, a := range questions[f]() {
					if i%4 != part {
						continue
					}
					enough := a.enough()
					for p := max(1, enough-2); p <= enough+2; p++ {
						a.decides(t, p)
					}
				}
			})
		}
	}
}

// hardest: questions of both formats whose values lie very near to a midpoint.
func hardest() []asked {
	var out []asked
	for f, least := range map[api.Format]int{api.Single: 45, api.Double: 103} {
		for _, a := range questions[f]() {
			if !a.value.Clear(f, least) {
				out = append(out, a)
			}
		}
	}
	return out
}

func TestP18_3_Hardest(t *testing.T) {
	list := hardest()
	found := map[api.Fn]int{}
	for _, a := range list {
		found[a.fn]++
		for p := 1; p <= 135; p++ {
			a.decides(t, p)
		}
	}
	for _, fn := range functions {
		if found[fn] == 0 {
			t.Errorf("no hard question of function %d has been asked", fn)
		}
	}
}

func TestP18_3_AtMaxRung(t *testing.T) {
	for i, b := range []uint64{1, bitsOf(1), bitsOf(-1e22), 0x7fefffffffffffff, bitsOf(0x1.598bae9e632f6p-7), bitsOf(0.25) - 1} {
		t.Run(strconv.Itoa(i), func(t *testing.T) {
			t.Parallel()
			for _, a := range askAll(api.Double, []uint64{b}) {
				if i%2 == int(a.fn)%2 { // each call takes a second: half of them will do
					a.decides(t, api.MaxRung)
				}
			}
		})
	}
	for _, a := range askAll(api.Single, []uint64{0xbf800001})[:2] {
		a.decides(t, api.MaxRung)
	}
}

// The sine of 1 lies farther than 2^-64 of itself from each midpoint.
func TestP18_3_Example(t *testing.T) {
	for _, p := range []int{64, 65, 100, 128, 1000} {
		if b, ok, e := ziv.Decide(api.Double, api.Sin, bitsOf(1), p); b != 0x3feaed548f090cee || !ok || e != api.OK {
			t.Errorf("Decide(Double, Sin, 1, %d) is %x, %v, error %d", p, b, ok, e)
		}
	}
}
