package piconst

import (
	"slices"
	"testing"

	"gnomon/nat"
	"gnomon/natmul"
	"gnomon/oracle"
)

// Arctan's ends go outward further than its sum is off: here the bounds of the sum itself.
func TestSumHoldsArctan(t *testing.T) {
	for _, n := range []int{2, 3, 4, 5, 239, 1 << 32} {
		for p := 1; p <= 400; p++ {
			const spare = 100
			b := arctan(uint64(n), p)
			least, most := oracle.Arctan(n, p+spare)
			low, high := oracle.Number(b.low), oracle.Number(b.high)
			if low.Lsh(low, spare).Cmp(least) > 0 || high.Lsh(high, spare).Cmp(most) < 0 {
				t.Errorf("the bounds %x and %x do not hold 2^%d * arctan(1/%d)", b.low, b.high, p, n)
			}
		}
	}
}

func TestBoundsOfPi(t *testing.T) {
	for p := 64; p <= 300; p++ {
		for _, c := range []struct {
			name  string
			b     bounds
			floor []uint64
		}{{"pi", pi(p), oracle.Natural(oracle.Pi(p))}, {"2/pi", inverse(p), oracle.Natural(oracle.TwoByPi(p))}} {
			if nat.Cmp(c.b.low, c.floor) > 0 || nat.Cmp(c.b.high, more(c.floor, 1)) < 0 {
				t.Errorf("the bounds %x and %x do not hold 2^%d * %s", c.b.low, c.b.high, p, c.name)
			}
		}
	}
}

// The bounds go as far as those that they come from leave room, also where pi lies far inside.
func TestBoundsLeaveAllTheRoom(t *testing.T) {
	for p := 64; p <= 300; p++ {
		b, great, small := pi(p), arctan(5, p), arctan(239, p)
		for _, x := range [][]uint64{great.low, great.high} {
			for _, y := range [][]uint64{small.low, small.high} {
				sum, _ := nat.MulWord(x, 16)
				part, _ := nat.MulWord(y, 4)
				sum, _ = nat.Sub(sum, part)
				if nat.Cmp(b.low, sum) > 0 || nat.Cmp(sum, b.high) > 0 {
					t.Errorf("the bounds of 2^%d * pi leave out what the two sums allow", p)
				}
			}
		}
		under, over := inverse(p), twoTo(2*p+1)
		if least, _ := natmul.Mul(under.low, b.high); nat.Cmp(least, over) > 0 {
			t.Errorf("2^%d * 2/pi may lie below its lower bound", p)
		}
		if most, _ := natmul.Mul(under.high, b.low); nat.Cmp(most, over) < 0 {
			t.Errorf("2^%d * 2/pi may lie above its upper bound", p)
		}
	}
}

// A number so near to a whole one that the first bounds hold that: 7 - 2^-300, told with an error of some units.
func TestFloorTakesNarrowerBounds(t *testing.T) {
	asked := 0
	below := func(p int) bounds {
		asked++
		seven, _ := nat.MulWord(twoTo(p), 7)
		if p > 300 {
			seven, _ = nat.Sub(seven, twoTo(p-300))
		}
		return bounds{less(seven, 9), more(seven, 9)}
	}
	for _, c := range []struct {
		p    int
		want []uint64
	}{{1, []uint64{13}}, {3, []uint64{55}}, {64, []uint64{1<<64 - 1, 6}}} {
		asked = 0
		if got := floor(c.p, below); !slices.Equal(got, c.want) {
			t.Errorf("the floor of 2^%d * (7 - 2^-300) is %x", c.p, got)
		}
		if asked < 3 {
			t.Errorf("the floor of 2^%d * (7 - 2^-300) was taken from bounds that do not tell it", c.p)
		}
	}
}

// Bounds whose upper one is the whole number itself do not tell the floor.
func TestFloorOfAnUpperBound(t *testing.T) {
	touches := func(p int) bounds {
		five, _ := nat.MulWord(twoTo(p), 5)
		if p > 100 {
			return bounds{less(five, 2), less(five, 1)}
		}
		return bounds{less(five, 2), five}
	}
	if got := floor(1, touches); !slices.Equal(got, []uint64{9}) {
		t.Errorf("the floor of 2 * (5 - a little) is %x", got)
	}
}
