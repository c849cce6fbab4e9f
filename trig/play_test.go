package trig_test

import (
	"slices"
	"testing"

	"gnomon/angles"
	"gnomon/trig"
)

// replied: what P26.6 says of one step.
func replied(l *trig.Lib, s trig.Step) trig.Reply {
	var r trig.Reply
	switch s.Op {
	case 1:
		r.A, r.OK = l.Sin(s.B)
	case 2:
		r.A, r.OK = l.Cos(s.B)
	case 3:
		r.A, r.OK = l.Tan(s.B)
	case 4:
		r.A, r.B, r.OK = l.SinCos(s.B)
	}
	return r
}

// plays looks at the replies to a script, and whether it comes back as it was.
func plays(t *testing.T, l *trig.Lib, script []trig.Step) []trig.Reply {
	t.Helper()
	spare := trig.Step{Op: 77, B: 0xabcd}
	roomy := append(slices.Clone(script), spare, spare)
	replies := l.Play(roomy[:len(script)])
	if !slices.Equal(roomy[:len(script)], script) || roomy[len(script)] != spare || roomy[len(script)+1] != spare {
		t.Errorf("the script was changed")
	}
	if len(replies) != len(script) {
		t.Fatalf("%d replies to %d steps", len(replies), len(script))
	}
	for i, s := range script {
		if want := replied(l, s); replies[i] != want {
			t.Errorf("the reply to %v is %v, want %v", s, replies[i], want)
		}
	}
	return replies
}

// script: every Op at patterns of each class and of numbers that the fast road does not tell by itself.
func script() []trig.Step {
	list := anyPatterns()
	for _, x := range angles.Hardest() {
		list = append(list, bitsOf(x))
	}
	var out []trig.Step
	for i, b := range list {
		for _, op := range []byte{0, 1, 2, 3, 4, 5, byte(6 + i%250)} {
			out = append(out, trig.Step{Op: op, B: b})
		}
	}
	return append(out, trig.Step{Op: 254, B: one}, trig.Step{Op: 255, B: one}, trig.Step{Op: 255}, trig.Step{})
}

func TestP26_5_P26_6_Scripts(t *testing.T) {
	fast := plays(t, made(t, trig.Fast), script())
	slow := plays(t, made(t, trig.Slow), script())
	if !slices.Equal(fast, slow) {
		t.Errorf("the roads reply otherwise")
	}
}

func TestP26_6_EveryOp(t *testing.T) {
	for _, m := range modes {
		var all []trig.Step
		for op := range 256 {
			all = append(all, trig.Step{Op: byte(op), B: one})
		}
		for op, r := range plays(t, made(t, m), all) {
			if r.OK != (op >= 1 && op <= 4) {
				t.Errorf("road %d: the reply to the op %d is %v", m, op, r)
			}
		}
	}
}

func TestP26_6_NoSteps(t *testing.T) {
	for _, m := range modes {
		l := made(t, m)
		if replies := l.Play(nil); len(replies) != 0 {
			t.Errorf("road %d: the replies to nil are %v", m, replies)
		}
		if replies := l.Play([]trig.Step{}); len(replies) != 0 {
			t.Errorf("road %d: the replies to no step are %v", m, replies)
		}
	}
}

// Each reply is the same in a script of that step alone, in one turned round, in one twice as long, and on a Lib that was asked other things.
func TestP26_6_EachStepAlone(t *testing.T) {
	steps := script()[:600]
	for _, m := range modes {
		l := made(t, m)
		replies := l.Play(steps)
		for i, s := range steps {
			if alone := l.Play([]trig.Step{s}); len(alone) != 1 || alone[0] != replies[i] {
				t.Errorf("road %d: the reply to %v alone is %v, and not %v", m, s, alone, replies[i])
			}
		}
		turned := slices.Clone(steps)
		slices.Reverse(turned)
		back := made(t, m).Play(turned)
		slices.Reverse(back)
		if !slices.Equal(back, replies) {
			t.Errorf("road %d: other replies in another order", m)
		}
		if again := l.Play(append(turned, steps...)); !slices.Equal(again[len(turned):], replies) {
			t.Errorf("road %d: other replies behind other steps", m)
		}
	}
}

// The replies are new memory at each call, spare room too.
func TestP26_6_NewMemory(t *testing.T) {
	for _, m := range modes {
		l := made(t, m)
		steps := script()[:20]
		first := l.Play(steps)
		told := slices.Clone(first)
		second := l.Play(steps)
		whole := first[:cap(first)]
		for i := range whole {
			whole[i] = trig.Reply{A: 1, B: 2}
		}
		if !slices.Equal(second, told) || !slices.Equal(l.Play(steps), told) {
			t.Errorf("road %d: replies share memory with earlier ones", m)
		}
	}
}

func TestP26_6_Examples(t *testing.T) {
	for _, m := range modes {
		l := made(t, m)
		for _, c := range []struct {
			steps []trig.Step
			want  []trig.Reply
		}{
			{[]trig.Step{{Op: 1, B: one}, {Op: 9, B: one}, {Op: 4, B: 0}}, []trig.Reply{{A: 0x3feaed548f090cee, OK: true}, {}, {A: 0, B: one, OK: true}}},
			{[]trig.Step{{Op: 4, B: 0}, {Op: 9, B: 0}, {Op: 2, B: 0}}, []trig.Reply{{A: 0, B: one, OK: true}, {}, {A: one, OK: true}}},
			{[]trig.Step{{Op: 4, B: one}, {Op: 3, B: one}}, []trig.Reply{{A: 0x3feaed548f090cee, B: 0x3fe14a280fb5068c, OK: true}, {A: 0x3ff8eb245cbee3a6, OK: true}}},
		} {
			if got := l.Play(c.steps); !slices.Equal(got, c.want) {
				t.Errorf("road %d: Play(%v) is %v", m, c.steps, got)
			}
		}
	}
}
