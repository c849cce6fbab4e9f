package trig_test

import (
	"math"
	"testing"

	"gnomon/api"
	"gnomon/oracle"
	"gnomon/trig"
	"gnomon/ziv"
)

func TestP26_1_New(t *testing.T) {
	for _, m := range modes {
		l := made(t, m)
		if l == made(t, m) {
			t.Errorf("New(%d) answers one Lib twice", m)
		}
	}
	for _, m := range []trig.Mode{0, 3, 4, -1, -2, 255, 257, 258, 1<<32 + 1, 1<<32 + 2, math.MaxInt, math.MinInt, math.MinInt + 1} {
		if l, e := trig.New(m); l != nil || e != api.ErrArg {
			t.Errorf("New(%d) is %v, error %d", m, l, e)
		}
	}
}

// anyPatterns: of each class and both signs.
func anyPatterns() []uint64 {
	out := append(oracle.Finite(api.Double), oracle.NaNs(api.Double)...)
	return append(out, oracle.Infinity(api.Double), oracle.Minus(api.Double, oracle.Infinity(api.Double)))
}

func TestP26_1_NoRoad(t *testing.T) {
	for _, l := range []*trig.Lib{nil, {}, new(trig.Lib)} {
		var script []trig.Step
		for _, b := range anyPatterns() {
			for _, fn := range radians {
				if got, ok := called(l, fn, b); got != 0 || ok {
					t.Errorf("%v: function %d of %x is %x, %v", l, fn, b, got, ok)
				}
			}
			if sin, cos, ok := l.SinCos(b); sin != 0 || cos != 0 || ok {
				t.Errorf("%v: SinCos(%x) is %x, %x, %v", l, b, sin, cos, ok)
			}
			for op := range byte(6) {
				script = append(script, trig.Step{Op: op, B: b})
			}
		}
		for n := range 10 {
			onlyEmpty(t, l.Play(script[:n]), n)
		}
		onlyEmpty(t, l.Play(script), len(script))
		onlyEmpty(t, l.Play(nil), 0)
	}
}

func onlyEmpty(t *testing.T, replies []trig.Reply, n int) {
	t.Helper()
	if len(replies) != n {
		t.Errorf("%d replies to %d steps", len(replies), n)
	}
	for _, r := range replies {
		if r != (trig.Reply{}) {
			t.Errorf("%v is among the replies", r)
		}
	}
}

// specialIs looks whether all faces answer the pattern for a function of radians.
func specialIs(t *testing.T, fn api.Fn, b, want uint64) {
	t.Helper()
	for _, m := range modes {
		if got, ok := called(made(t, m), fn, b); got != want || !ok {
			t.Errorf("road %d, function %d of %x is %x, %v; want %x", m, fn, b, got, ok, want)
		}
	}
	if got, ok, e := trig.Quick(fn, b); got != want || !ok || e != api.OK {
		t.Errorf("Quick(%d, %x) is %x, %v, error %d; want %x", fn, b, got, ok, e, want)
	}
	valueIs(t, api.Double, fn, b, want)
}

func valueIs(t *testing.T, f api.Format, fn api.Fn, b, want uint64) {
	t.Helper()
	if got, ok, e := trig.Value(f, fn, b); got != want || !ok || e != api.OK {
		t.Errorf("Value(%d, %d, %x) is %x, %v, error %d; want %x", f, fn, b, got, ok, e, want)
	}
}

func TestP26_2_NoNumbers(t *testing.T) {
	for f, want := range map[api.Format]uint64{api.Single: 0x7fc00001, api.Double: quiet} {
		infinity := oracle.Infinity(f)
		for _, b := range append(oracle.NaNs(f), infinity, oracle.Minus(f, infinity)) {
			for _, fn := range functions {
				valueIs(t, f, fn, b, want)
			}
			for _, fn := range radians {
				if f == api.Double {
					specialIs(t, fn, b, want)
				}
			}
		}
	}
}

func TestP26_2_Noughts(t *testing.T) {
	for f, first := range map[api.Format]uint64{api.Single: 0x3f800000, api.Double: one} {
		for _, b := range []uint64{0, oracle.Minus(f, 0)} {
			for i, want := range []uint64{b, first, b, b, first, b} {
				valueIs(t, f, functions[i], b, want)
				if f == api.Double && i < 3 {
					specialIs(t, functions[i], b, want)
				}
			}
		}
	}
}

func TestP26_2_P26_3_Examples(t *testing.T) {
	for _, c := range []struct{ b, sin, cos, tan uint64 }{
		{one, 0x3feaed548f090cee, 0x3fe14a280fb5068c, 0x3ff8eb245cbee3a6},
		{sign, sign, one, sign}, {0, 0, one, 0}, {0x7ff0000000000000, quiet, quiet, quiet}, {0xfff8000000000123, quiet, quiet, quiet},
		{1, 1, one, 1}, {0x3e40000000000000, 0x3e40000000000000, one, 0x3e40000000000000},
		{0x4480f0cf064dd592, 0xbfeb453ab76bf397, 0x3fe0be2cef01c8f4, 0xbffa0f79c1b6b257},
	} {
		for i, want := range []uint64{c.sin, c.cos, c.tan} {
			specialIs(t, radians[i], c.b, want)
		}
	}
}

// By both roads the answer is the right one, whether the fast one tells it by itself or not.
func TestP26_3_P26_5_Numbers(t *testing.T) {
	t.Parallel()
	list := questions()
	for _, m := range modes {
		l := made(t, m)
		inParts(len(list), func(i int) {
			a := list[i]
			if got, ok := called(l, a.fn, a.b); got != a.want || !ok {
				t.Errorf("road %d, function %d of %x is %x, %v; want %x", m, a.fn, a.b, got, ok, a.want)
			}
		})
	}
}

// alike looks whether both roads answer what the ladder does.
func alike(t *testing.T, fast, slow *trig.Lib, b uint64) {
	t.Helper()
	for _, fn := range radians {
		want, sure, _ := ziv.Value(api.Double, fn, b)
		quickly, ok := called(fast, fn, b)
		slowly, yes := called(slow, fn, b)
		if quickly != want || slowly != want || ok != sure || yes != sure {
			t.Errorf("function %d of %x is %x, %v by the fast road, %x, %v by the slow one, %x, %v by the ladder", fn, b, quickly, ok, slowly, yes, want, sure)
		}
	}
}

func TestP26_3_P26_5_Ladder(t *testing.T) {
	t.Parallel()
	fast, slow := made(t, trig.Fast), made(t, trig.Slow)
	list := append(anyPatterns(), oracle.Words(2000)...)
	for i, x := range numbers() {
		if i%9 == 0 {
			list = append(list, bitsOf(x))
		}
	}
	inParts(len(list), func(i int) { alike(t, fast, slow, list[i]) })
}

// Below 2^-26 sines and tangents are certain, below 2^-27 cosines: and most of them are x itself, or 1.
func TestP26_3_Tiny(t *testing.T) {
	turned := 0
	for _, m := range modes {
		l := made(t, m)
		for _, x := range tiny() {
			b, size := bitsOf(x), math.Abs(x)
			if got, ok := l.Sin(b); size < 0x1p-26 && (got != b || !ok) {
				t.Errorf("road %d: the sine of %x is %x, %v", m, x, got, ok)
			}
			if got, ok := l.Cos(b); size < 0x1p-27 && (got != one || !ok) {
				t.Errorf("road %d: the cosine of %x is %x, %v", m, x, got, ok)
			}
			got, ok := l.Tan(b)
			if size < 0x1p-26 && (!ok || got != b && (got != b+1 || size < 0x1.d12ed0af1a27fp-27)) {
				t.Errorf("road %d: the tangent of %x is %x, %v", m, x, got, ok)
			}
			if size < 0x1p-26 && got == b+1 {
				turned++
			} else if size < 0x1p-26 && size >= 0x1.d12ed0af1a27fp-27 {
				t.Errorf("road %d: the tangent of %x is %x", m, x, got)
			}
		}
	}
	if turned < 10 {
		t.Errorf("only %d tangents are the next number", turned)
	}
}

func TestP26_4_SinCos(t *testing.T) {
	t.Parallel()
	list := append(anyPatterns(), oracle.Words(300)...)
	for i, x := range numbers() {
		if i%20 == 0 {
			list = append(list, bitsOf(x))
		}
	}
	for _, m := range modes {
		l := made(t, m)
		inParts(len(list), func(i int) {
			b := list[i]
			sin, sure := l.Sin(b)
			cos, certain := l.Cos(b)
			if !sure || !certain {
				sin, cos = 0, 0
			}
			if first, second, ok := l.SinCos(b); first != sin || second != cos || ok != (sure && certain) {
				t.Errorf("road %d: SinCos(%x) is %x, %x, %v; want %x, %x", m, b, first, second, ok, sin, cos)
			}
		})
	}
}

// mirrored looks at the functions of a number and of its opposite.
func mirrored(t *testing.T, l *trig.Lib, b uint64) {
	t.Helper()
	for _, fn := range radians {
		plus, sure := called(l, fn, b)
		minus, ok := called(l, fn, b^sign)
		if !sure || !ok {
			continue
		}
		if fn != api.Cos {
			minus ^= sign
		}
		if plus != minus {
			t.Errorf("function %d of %x is %x; of the opposite it is not so", fn, b, plus)
		}
		size := plus &^ sign
		if size == 0 || size >= 0x7ff0000000000000 || fn != api.Tan && size > one {
			t.Errorf("function %d of %x is %x", fn, b, plus)
		}
	}
}

func TestP26_10_Mirrors(t *testing.T) {
	t.Parallel()
	for m, some := range map[trig.Mode]int{trig.Fast: 1, trig.Slow: 30} {
		l := made(t, m)
		list := numbers()
		inParts(len(list)/some, func(i int) { mirrored(t, l, bitsOf(list[i*some])) })
	}
	for _, b := range oracle.Finite(api.Double)[2:] {
		mirrored(t, made(t, trig.Fast), b)
	}
}
