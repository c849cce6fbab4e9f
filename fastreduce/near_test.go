package fastreduce

import (
	"testing"

	"gnomon/angles"
	"gnomon/oracle"
)

// The remainders by the parts are nearer than is asked for, as the remarks say: 2^-101 is 2^-88 of 2^-13.
func TestRemaindersAreNearer(t *testing.T) {
	t.Parallel()
	quarter := oracle.NewQuarter()
	for _, x := range angles.All() {
		if q, v, ok := Cody(x); ok && !quarter.Within(x, q, v, 88) {
			t.Errorf("Cody(%x) is %d, %x", x, q, v)
		}
	}
}
