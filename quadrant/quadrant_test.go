package quadrant

import (
	"math/big"
	"strconv"
	"testing"

	"gnomon/api"
	"gnomon/dyadic"
	"gnomon/oracle"
	"gnomon/span"
)

// remainders: spans of both signs from -13/16 to 13/16, as wide as they may be at p bits, or of one number alone.
func remainders(p int) []api.Span {
	var out []api.Span
	for _, c := range [...][2]int{{103, -7}, {51, -6}, {3, -2}, {0x1921fb54442d18, -53}, {1, -1}, {5, -5}, {1, -10}, {1, -61}, {3, -70}, {1, -1074}, {7, -2000}} {
		near := oracle.Times(big.NewInt(int64(c[0])), c[1])
		width, _ := dyadic.Scale(near, -p-Spare)
		far, _ := dyadic.Add(near, width)
		wide := api.Span{Lo: near, Hi: far}
		mirrored, _ := span.Neg(wide)
		point := api.Span{Lo: near, Hi: near}
		below, _ := span.Neg(point)
		out = append(out, wide, mirrored, point, below)
	}
	return append(out, api.Span{})
}

// right looks whether the span holds the function at both ends of t, and so all over t, as none of them turns within a quadrant.
func right(t *testing.T, circle oracle.Circle, fn api.Fn, q int, rest api.Span, p int) {
	t.Helper()
	s := Enclose(fn, q, rest, p)
	lo, hi := circle.From(q, rest.Lo).Of(fn), circle.From(q, rest.Hi).Of(fn)
	if !span.Form(s) || !lo.Holds(s) || !hi.Holds(s) {
		t.Errorf("function %d in quadrant %d of %s at %d bits: %s", fn, q, oracle.TellSpan(rest), p, oracle.TellSpan(s))
	}
	if !oracle.Thin(s, p+Spare-4) || !oracle.Short(s, p+64) || fn != api.Tan && !oracle.WithinOne(s) {
		t.Errorf("function %d in quadrant %d of %s at %d bits is too wide: %s", fn, q, oracle.TellSpan(rest), p, oracle.TellSpan(s))
	}
}

func TestEnclose(t *testing.T) {
	for _, p := range []int{1, 2, 3, 10, 53, 64, 200, 1000} {
		t.Run(strconv.Itoa(p), func(t *testing.T) {
			t.Parallel()
			circle := oracle.Around(p + 120)
			for _, rest := range remainders(p) {
				for q := range 4 {
					for fn := api.Sin; fn <= api.Tan; fn++ {
						if nought := len(rest.Hi.Man.Mag) == 0; !nought || fn != api.Tan || q%2 == 0 { // but for poles
							right(t, circle, fn, q, rest, p)
						}
					}
				}
			}
		})
	}
}

// Of a remainder of nought the values are told exactly.
func TestEncloseNought(t *testing.T) {
	for q, want := range [][2]int{{0, 1}, {1, 0}, {0, -1}, {-1, 0}} {
		for _, p := range []int{1, 100, api.MaxRung} {
			sin, cos := Enclose(api.Sin, q, api.Span{}, p), Enclose(api.Cos, q, api.Span{}, p)
			for i, s := range []api.Span{sin, cos} {
				if d := oracle.Fields(want[i], 0); !oracle.Same(s.Lo, d) || !oracle.Same(s.Hi, d) {
					t.Errorf("quadrant %d at %d bits: %s and %s", q, p, oracle.TellSpan(sin), oracle.TellSpan(cos))
				}
			}
		}
	}
}
