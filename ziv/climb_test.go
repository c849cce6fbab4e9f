package ziv_test

import (
	"math"
	"strconv"
	"testing"

	"gnomon/api"
	"gnomon/oracle"
	"gnomon/ziv"
)

// climbed: what Climb must answer, by what Decide answers.
func (a asked) climbed(start, last int) ziv.Answer {
	for _, r := range rungs(start, last) {
		if bits, ok, _ := ziv.Decide(a.f, a.fn, a.b, r); ok {
			return ziv.Answer{Bits: bits, OK: true, Rung: r}
		}
	}
	return ziv.Answer{}
}

// climbs looks at one ladder's answer, and tells whether it is certain.
func (a asked) climbs(t *testing.T, start, last int) bool {
	t.Helper()
	got, e := ziv.Climb(a.f, a.fn, a.b, start, last)
	list := rungs(start, last)
	switch {
	case e != api.OK || got != a.climbed(start, last):
		t.Errorf("Climb(%d, %d, %x, %d, %d) is %v, error %d; want %v", a.f, a.fn, a.b, start, last, got, e, a.climbed(start, last))
	case got.OK && got.Bits != a.want:
		t.Errorf("Climb(%d, %d, %x, %d, %d) is %x, true; want %x", a.f, a.fn, a.b, start, last, got.Bits, a.want)
	case !got.OK && a.value.Clear(a.f, list[len(list)-1]):
		t.Errorf("Climb(%d, %d, %x, %d, %d) is not certain, but must be", a.f, a.fn, a.b, start, last)
	}
	return got.OK
}

func TestP18_4_P18_6_Climb(t *testing.T) {
	for _, f := range oracle.Formats() {
		for _, l := range [][2]int{{1, 1}, {1, 30}, {1, api.MaxRung}, {3, 50}, {20, 20}, {17, 70}, {33, 67}, {50, api.Cap}, {53, 60}, {100, 399}} {
			t.Run(strconv.Itoa(int(f))+" "+strconv.Itoa(l[0])+" "+strconv.Itoa(l[1]), func(t *testing.T) {
				t.Parallel()
				for i, a := range questions[f]() {
					if i%5 == 0 {
						a.climbs(t, l[0], l[1])
					}
				}
			})
		}
	}
}

// Ladders that end at some rung too low are left empty, without an error; longer ones tell the pattern, and the same one.
func TestP18_4_P18_6_Hardest(t *testing.T) {
	empty, certain := 0, 0
	for _, a := range hardest() {
		for start := 1; start <= 11; start++ {
			for last := start; last <= 200; last = 2*last - last/4 {
				if a.climbs(t, start, last) {
					certain++
				} else {
					empty++
				}
			}
		}
	}
	if empty < 1000 || certain < 1000 {
		t.Errorf("only %d ladders were left empty, and %d told a pattern", empty, certain)
	}
}

// The rungs are tried from below: of a number that each of them tells, the first one does.
func TestP18_4_FirstRung(t *testing.T) {
	for _, start := range []int{api.Start, 129, 200, 500, 3000} {
		for _, last := range []int{start, 2 * start, api.Cap, api.MaxRung} {
			for _, a := range append(askAll(api.Double, []uint64{bitsOf(1), bitsOf(-0.3)}), askAll(api.Single, []uint64{0x3f800001})...) {
				if got, e := ziv.Climb(a.f, a.fn, a.b, start, last); got != (ziv.Answer{Bits: a.want, OK: true, Rung: start}) || e != api.OK {
					t.Errorf("Climb(%d, %d, %x, %d, %d) is %v, error %d", a.f, a.fn, a.b, start, last, got, e)
				}
			}
		}
	}
}

func TestP18_4_Examples(t *testing.T) {
	for _, c := range []struct {
		fn          api.Fn
		x           float64
		start, last int
		want        ziv.Answer
	}{
		{api.SinPi, 0.5, 1, 1, ziv.Answer{Bits: 0x3ff0000000000000, OK: true, Rung: 0}},
		{api.Sin, 1, 128, 65536, ziv.Answer{Bits: 0x3feaed548f090cee, OK: true, Rung: 128}},
		{api.Cos, 1, 128, 65536, ziv.Answer{Bits: 0x3fe14a280fb5068c, OK: true, Rung: 128}},
		{api.Sin, math.Inf(1), api.MaxRung, api.MaxRung, ziv.Answer{Bits: 0x7ff8000000000001, OK: true, Rung: 0}},
	} {
		if got, e := ziv.Climb(api.Double, c.fn, bitsOf(c.x), c.start, c.last); got != c.want || e != api.OK {
			t.Errorf("Climb(Double, %d, %v, %d, %d) is %v, error %d", c.fn, c.x, c.start, c.last, got, e)
		}
	}
	got, e := ziv.Climb(api.Double, api.Sin, bitsOf(1), 1, 1)
	if e != api.OK || got != (ziv.Answer{}) && got != (ziv.Answer{Bits: 0x3feaed548f090cee, OK: true, Rung: 1}) {
		t.Errorf("Climb(Double, Sin, 1, 1, 1) is %v, error %d", got, e)
	}
}
