package reading_test

import (
	"strings"
	"testing"

	"gnomon/api"
	"gnomon/reading"
)

// fault: the error with which a reader gives up, OK where it does not.
func fault(read func()) (errno api.Errno) {
	defer func() {
		if caught := recover(); caught != nil {
			errno = caught.(reading.Fault).Errno
		}
	}()
	read()
	return api.OK
}

func gives(t *testing.T, what string, want api.Errno, read func()) {
	t.Helper()
	if got := fault(read); got != want {
		t.Errorf("%s: error %d, want %d", what, got, want)
	}
}

func TestOpen(t *testing.T) {
	gives(t, "the longest text", api.OK, func() { reading.Open(strings.Repeat("x", api.MaxText)) })
	gives(t, "one byte more", api.ErrLong, func() { reading.Open(strings.Repeat("x", api.MaxText+1)) })
}

func TestPieces(t *testing.T) {
	text := reading.Open("-0xab.cp+7")
	if text.Is("-0xab") || !text.Is("-0xab.cp+7") || !text.Minus() || text.Minus() {
		t.Error("the sign is not taken just once")
	}
	gives(t, "a word that stands there", api.OK, func() { text.Needs("0X", "0x") })
	gives(t, "a word that does not", api.ErrText, func() { text.Needs("0X", "0x") })
	if digits, behind := text.Digits("0123456789abcdef"); digits != "abc" || behind != 1 {
		t.Errorf("digits %q, %d of them behind the point", digits, behind)
	}
	gives(t, "the end with something left", api.ErrText, text.End)
	if text.Takes("e") || !text.Takes("e", "p") || text.Exponent() != 7 {
		t.Error("the exponent is not 7")
	}
	gives(t, "the end", api.OK, text.End)
	gives(t, "digits behind the end", api.ErrText, func() { text.Digits("01") })
	gives(t, "an exponent behind the end", api.ErrText, func() { text.Exponent() })
}

func TestDigitsLoseNoughtsInFront(t *testing.T) {
	for s, want := range map[string]struct {
		digits string
		behind int
	}{
		"0": {"", 0}, "000.": {"", 0}, ".000": {"", 3}, "0010": {"10", 0}, "0.010": {"10", 3}, "10.0": {"100", 1}, ".5": {"5", 1}, "1.2.3": {"12", 1},
	} {
		if digits, behind := reading.Open(s).Digits("0123456789"); digits != want.digits || behind != want.behind {
			t.Errorf("%q: digits %q, %d behind the point", s, digits, behind)
		}
	}
	gives(t, "a point alone", api.ErrText, func() { reading.Open(".").Digits("01") })
}

func TestExponents(t *testing.T) {
	for s, want := range map[string]int{
		"0": 0, "-0": 0, "+12": 12, "-007": -7, "99999": 99999, "100000": reading.Far, "100001": reading.Far, "-1234567": -reading.Far,
		"18446744073709551617": reading.Far, "-" + strings.Repeat("9", 3000): -reading.Far, "1e5": 1,
	} {
		if got := reading.Open(s).Exponent(); got != want {
			t.Errorf("%.30q is %d, want %d", s, got, want)
		}
	}
	for _, s := range []string{"", "+", "-", "+-1", "x", " 1"} {
		gives(t, s, api.ErrText, func() { reading.Open(s).Exponent() })
	}
}

func TestFaultIsAnError(t *testing.T) {
	var e error = reading.Fault{Errno: api.ErrText}
	if !strings.Contains(e.Error(), "8") {
		t.Errorf("%q does not tell the error's number", e.Error())
	}
}
