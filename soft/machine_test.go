package soft_test

import (
	"math"
	"testing"

	"gnomon/api"
	"gnomon/oracle"
)

// canonical: the pattern of a float of the machine, with the one NaN for all.
func canonical[T float32 | float64](f api.Format, x T) uint64 {
	if x != x {
		return quiet(f)
	}
	return oracle.Bits(f, float64(x))
}

// reckoned: what the machine answers for two operands. Each result is converted, so that none is fused with another or kept wider.
func reckoned[T float32 | float64](x, y T) (sum, difference, product, quotient T) {
	return T(x + y), T(x - y), T(x * y), T(x / y)
}

func ordered(x, y float64) uint64 {
	switch {
	case x < y:
		return below
	case x == y:
		return same
	case x > y:
		return above
	}
	return none
}

// asMachine: do the operations of two patterns answer as the machine's own?
func asMachine(t *testing.T, f api.Format, a, b uint64) {
	t.Helper()
	x, y := oracle.Float(f, a), oracle.Float(f, b)
	var want [4]uint64
	if f == single {
		p, q, r, s := reckoned(float32(x), float32(y))
		want = [4]uint64{canonical(f, p), canonical(f, q), canonical(f, r), canonical(f, s)}
	} else {
		p, q, r, s := reckoned(x, y)
		want = [4]uint64{canonical(f, p), canonical(f, q), canonical(f, r), canonical(f, s)}
	}
	for i, o := range []op{add, sub, mul, div} {
		o.is(t, f, want[i], a, b)
	}
	order.is(t, f, ordered(x, y), a, b)
}

func TestP9_10_AllKinds(t *testing.T) {
	for _, f := range oracle.Formats() {
		for _, a := range patterns(f) {
			for _, b := range patterns(f) {
				asMachine(t, f, a, b)
			}
		}
	}
}

// near: a pattern whose exponent is that of a or lies a little beside it, of any sign.
func near(f api.Format, a, word uint64) uint64 {
	steps := (word>>8)%121 - 60
	mantissa := (word >> 16) & (leastNormal(f) - 1)
	if word&1 == 0 {
		mantissa &= -mantissa // one bit alone
	}
	b := (a + steps*leastNormal(f)) ^ mantissa
	if word&2 == 0 {
		b = oracle.Minus(f, b)
	}
	return b & (math.MaxUint64 >> (64 - f))
}

func TestP9_10_NearExponents(t *testing.T) {
	w := oracle.Words(30000)
	for _, f := range oracle.Formats() {
		for i := 0; i < len(w); i += 2 {
			a := w[i] >> (64 - f)
			asMachine(t, f, a, near(f, a, w[i+1]))
		}
	}
}

// For Single the machine's root in float64 is rounded once more: that float64 has bits enough for this to be the root rounded once.
func TestP9_10_Roots(t *testing.T) {
	w := oracle.Words(20000)
	for _, f := range oracle.Formats() {
		list := patterns(f)
		for _, b := range w {
			list = append(list, b>>(64-f), b>>(64-f)&^oracle.Minus(f, 0))
		}
		for _, b := range list {
			x := math.Sqrt(oracle.Float(f, b))
			root.is(t, f, canonical(f, x), b)
		}
	}
}

func TestP9_10_Fused(t *testing.T) {
	list := append(append(edges(double), some(double, 9)...), oracle.NaNs(double)[:3]...)
	for _, a := range list {
		for _, b := range list {
			for _, c := range list {
				fusedAsMachine(t, a, b, c)
			}
		}
	}
}

// Addends near the product, so that much or all of it is taken away.
func TestP9_10_FusedNearExponents(t *testing.T) {
	w := oracle.Words(45000)
	for i := 0; i < len(w); i += 3 {
		a, b := w[i], w[i+1]
		p := math.Float64bits(math.Float64frombits(a) * math.Float64frombits(b))
		fusedAsMachine(t, a, b, near(double, p, w[i+2]))
		fusedAsMachine(t, a, b, oracle.Minus(double, p))
	}
}

func fusedAsMachine(t *testing.T, a, b, c uint64) {
	t.Helper()
	want := math.FMA(math.Float64frombits(a), math.Float64frombits(b), math.Float64frombits(c))
	fma.is(t, double, canonical(double, want), a, b, c)
}
