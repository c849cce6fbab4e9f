package trig

// Step is a call of a script: 1 Sin, 2 Cos, 3 Tan, 4 SinCos of the pattern B.
type Step struct {
	Op byte
	B  uint64
}

// Reply answers a step: A (and B, the cosine, of a SinCos), and whether it is certain.
type Reply struct {
	A, B uint64
	OK   bool
}

// Play: the replies to a script, step by step.
func (l *Lib) Play(script []Step) []Reply {
	calls := [...]func(b uint64) Reply{1: ofOne(l.Sin), 2: ofOne(l.Cos), 3: ofOne(l.Tan), 4: ofTwo(l.SinCos)}
	replies := make([]Reply, len(script))
	for i, step := range script {
		if step.Op >= 1 && int(step.Op) < len(calls) {
			replies[i] = calls[step.Op](step.B)
		}
	}
	return replies
}

// ofOne, ofTwo: a call that tells one pattern, or two, as what replies to a step.
func ofOne(call func(b uint64) (uint64, bool)) func(b uint64) Reply {
	return func(b uint64) Reply {
		bits, ok := call(b)
		return Reply{A: bits, OK: ok}
	}
}

func ofTwo(call func(b uint64) (uint64, uint64, bool)) func(b uint64) Reply {
	return func(b uint64) Reply {
		first, second, ok := call(b)
		return Reply{first, second, ok}
	}
}
