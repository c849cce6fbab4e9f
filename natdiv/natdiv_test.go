package natdiv_test

import (
	"math/big"
	"slices"
	"strings"
	"testing"

	"gnomon/api"
	"gnomon/natdiv"
	"gnomon/oracle"
)

const m = 1<<64 - 1

// limbs is short for a list of limbs.
type limbs = []uint64

var noughts, ones, number, natural, misshapen, mixed = oracle.Noughts, oracle.Ones, oracle.Number, oracle.Natural, oracle.Misshapen, oracle.Mixed

func quoRemIs(t *testing.T, a, b, q, r limbs, e api.Errno) {
	t.Helper()
	gotQ, gotR, gotE := natdiv.QuoRem(a, b)
	if gotE != e || !slices.Equal(gotQ, q) || !slices.Equal(gotR, r) {
		t.Errorf("QuoRem(%.90v, %.90v) = %.90v, %.90v, %d, want %.90v, %.90v, %d", a, b, gotQ, gotR, gotE, q, r, e)
	}
}

// quoRemByLibrary holds a division against the library's own.
func quoRemByLibrary(t *testing.T, a, b limbs) {
	t.Helper()
	q, r := new(big.Int).QuoRem(number(a), number(b), new(big.Int))
	quoRemIs(t, a, b, natural(q), natural(r), api.OK)
}

func TestP3_1_QuoRemExamples(t *testing.T) {
	quoRemIs(t, limbs{7}, limbs{2}, limbs{3}, limbs{1}, api.OK)
	quoRemIs(t, limbs{6}, limbs{2}, limbs{3}, nil, api.OK)
	quoRemIs(t, limbs{1}, limbs{2}, nil, limbs{1}, api.OK)
	quoRemIs(t, nil, limbs{5}, nil, nil, api.OK)
	quoRemIs(t, limbs{0, 0, 1}, limbs{3}, limbs{0x5555555555555555, 0x5555555555555555}, limbs{1}, api.OK)
	quoRemIs(t, limbs{0, 0, 1}, limbs{1, 1}, limbs{m}, limbs{1}, api.OK)
	quoRemIs(t, limbs{m, m}, limbs{m, m}, limbs{1}, nil, api.OK)
	quoRemIs(t, limbs{m, m, m}, limbs{0, 1}, limbs{m, m}, limbs{m}, api.OK)
	quoRemIs(t, limbs{0, 0, 1 << 63}, limbs{m, 1 << 63}, limbs{m - 1}, limbs{m - 1, 2}, api.OK)
}

func TestP3_1_QuoRemByTheLibrary(t *testing.T) {
	lengths := []int{0, 1, 2, 3, 4, 7, 20, 41}
	for i, n := range lengths {
		for j, k := range lengths[1:] {
			for seed := range uint64(25) {
				quoRemByLibrary(t, mixed(n, seed+uint64(100*i)), mixed(k, seed+uint64(9000+100*j)))
			}
		}
	}
}

// Quotients and remainders at their edges: a multiple of b, one less, and the greatest remainder.
func TestP3_1_QuoRemFromItsParts(t *testing.T) {
	one := big.NewInt(1)
	for seed := range uint64(60) {
		q := mixed(int(seed%6)+1, seed)
		b := mixed(int(seed%5)+1, seed+500)
		product := new(big.Int).Mul(number(q), number(b))
		quoRemIs(t, natural(product), b, q, nil, api.OK)
		greatest := new(big.Int).Sub(number(b), one)
		quoRemIs(t, natural(new(big.Int).Add(product, greatest)), b, q, natural(greatest), api.OK)
		quoRemByLibrary(t, natural(new(big.Int).Sub(product, one)), b)
	}
}

func TestP3_1_QuoRemAtTheLimit(t *testing.T) {
	greatest := ones(api.MaxLimbs)
	quoRemIs(t, greatest, limbs{1}, greatest, nil, api.OK)
	quoRemIs(t, greatest, greatest, limbs{1}, nil, api.OK)
	quoRemIs(t, limbs{5}, greatest, nil, limbs{5}, api.OK)
	// Divisors with a small limb on top: to have its top bit set both numbers are moved beyond the limit for a while.
	for _, b := range []limbs{noughts(1, 1), noughts(4095, 1), noughts(8191, 1), mixed(4096, 3), mixed(2, 9), mixed(8191, 4)} {
		quoRemByLibrary(t, greatest, b)
	}
}

func TestP3_1_QuoRemWrong(t *testing.T) {
	quoRemIs(t, limbs{5}, nil, nil, nil, api.ErrZero)
	quoRemIs(t, nil, limbs{}, nil, nil, api.ErrZero)
	quoRemIs(t, ones(api.MaxLimbs), nil, nil, nil, api.ErrZero)
	for _, a := range misshapen() {
		quoRemIs(t, a, limbs{3}, nil, nil, api.ErrForm)
		quoRemIs(t, a, limbs{3, 4}, nil, nil, api.ErrForm)
		quoRemIs(t, limbs{3}, a, nil, nil, api.ErrForm)
		quoRemIs(t, nil, a, nil, nil, api.ErrForm)
		quoRemIs(t, a, nil, nil, nil, api.ErrForm)
	}
}

func rootIs(t *testing.T, a, s, r limbs, e api.Errno) {
	t.Helper()
	gotS, gotR, gotE := natdiv.Root(a)
	if gotE != e || !slices.Equal(gotS, s) || !slices.Equal(gotR, r) {
		t.Errorf("Root(%.90v) = %.90v, %.90v, %d, want %.90v, %.90v, %d", a, gotS, gotR, gotE, s, r, e)
	}
}

// rootByLibrary holds a root against the library's own.
func rootByLibrary(t *testing.T, a limbs) {
	t.Helper()
	x := number(a)
	s := new(big.Int).Sqrt(x)
	rootIs(t, a, natural(s), natural(new(big.Int).Sub(x, new(big.Int).Mul(s, s))), api.OK)
}

func TestP3_2_RootExamples(t *testing.T) {
	rootIs(t, nil, nil, nil, api.OK)
	rootIs(t, limbs{15}, limbs{3}, limbs{6}, api.OK)
	rootIs(t, limbs{16}, limbs{4}, nil, api.OK)
	rootIs(t, limbs{0, 1}, limbs{1 << 32}, nil, api.OK)
	rootIs(t, limbs{m, m}, limbs{m}, limbs{m - 1, 1}, api.OK)
	rootIs(t, limbs{m}, limbs{1<<32 - 1}, limbs{1<<33 - 2}, api.OK)
}

func TestP3_2_RootByTheLibrary(t *testing.T) {
	for w := range uint64(300) {
		rootByLibrary(t, natural(new(big.Int).SetUint64(w)))
	}
	one := big.NewInt(1)
	for bits := range uint(400) {
		power := new(big.Int).Lsh(one, bits)
		rootByLibrary(t, natural(power))
		rootByLibrary(t, natural(new(big.Int).Sub(power, one)))
	}
	for seed := range uint64(300) {
		s := number(mixed(int(seed%9)+1, seed))
		square := new(big.Int).Mul(s, s)
		rootIs(t, natural(square), natural(s), nil, api.OK)
		rootByLibrary(t, natural(new(big.Int).Sub(square, one)))
		twice := new(big.Int).Lsh(s, 1) // the greatest rest
		rootIs(t, natural(new(big.Int).Add(square, twice)), natural(s), natural(twice), api.OK)
		rootByLibrary(t, mixed(int(seed%17)+1, seed+1000))
	}
}

func TestP3_2_RootAtTheLimit(t *testing.T) {
	for _, n := range []int{api.MaxLimbs, api.MaxLimbs - 1} {
		rootByLibrary(t, ones(n))
		rootByLibrary(t, noughts(n-1, 1))
		rootByLibrary(t, mixed(n, 77))
	}
	for _, a := range misshapen() {
		rootIs(t, a, nil, nil, api.ErrForm)
	}
}

func textIs(t *testing.T, a limbs, want string, e api.Errno) {
	t.Helper()
	if got, gotE := natdiv.Text(a); got != want || gotE != e {
		t.Errorf("Text(%.90v) = %.90q (%d bytes), %d, want %.90q, %d", a, got, len(got), gotE, want, e)
	}
}

func readIs(t *testing.T, s string, want limbs, e api.Errno) {
	t.Helper()
	if got, gotE := natdiv.Read(s); !slices.Equal(got, want) || gotE != e {
		t.Errorf("Read(%.90q) = %.90v, %d, want %.90v, %d", s, got, gotE, want, e)
	}
}

// tens: 10^n.
func tens(n int64) *big.Int { return new(big.Int).Exp(big.NewInt(10), big.NewInt(n), nil) }

func TestP3_3_Text(t *testing.T) {
	textIs(t, nil, "0", api.OK)
	textIs(t, limbs{}, "0", api.OK)
	textIs(t, limbs{10}, "10", api.OK)
	textIs(t, limbs{0, 1}, "18446744073709551616", api.OK)
	for n := range 60 {
		a := mixed(n, uint64(n))
		textIs(t, a, number(a).String(), api.OK)
	}
	for n := range int64(100) { // pieces of noughts alone, and of nines
		textIs(t, natural(tens(n)), "1"+strings.Repeat("0", int(n)), api.OK)
		textIs(t, natural(new(big.Int).Sub(tens(n+1), big.NewInt(1))), strings.Repeat("9", int(n)+1), api.OK)
	}
}

func TestP3_3_TextAtTheLimit(t *testing.T) {
	bound := tens(api.MaxDigits)
	textIs(t, natural(new(big.Int).Sub(bound, big.NewInt(1))), strings.Repeat("9", api.MaxDigits), api.OK)
	textIs(t, natural(bound), "", api.ErrLimit)
	textIs(t, natural(new(big.Int).Add(bound, bound)), "", api.ErrLimit)
	textIs(t, ones(307), "", api.ErrLimit)
	textIs(t, ones(api.MaxLimbs), "", api.ErrLimit)
	for _, a := range misshapen() {
		textIs(t, a, "", api.ErrForm)
	}
}

func TestP3_4_Read(t *testing.T) {
	readIs(t, "18446744073709551616", limbs{0, 1}, api.OK)
	readIs(t, "0", nil, api.OK)
	readIs(t, "000", nil, api.OK)
	readIs(t, "007", limbs{7}, api.OK)
	for n := 1; n <= 120; n++ {
		digits := strings.Repeat("9807125436", 12)[:n]
		want, _ := new(big.Int).SetString(digits, 10)
		readIs(t, digits, natural(want), api.OK)
		readIs(t, strings.Repeat("0", n)+digits, natural(want), api.OK)
	}
}

func TestP3_4_ReadAtTheLimit(t *testing.T) {
	nines := strings.Repeat("9", api.MaxDigits)
	readIs(t, nines, natural(new(big.Int).Sub(tens(api.MaxDigits), big.NewInt(1))), api.OK)
	readIs(t, nines+"9", nil, api.ErrLong)
	readIs(t, strings.Repeat("0", api.MaxDigits), nil, api.OK)
	readIs(t, strings.Repeat("0", api.MaxDigits-1)+"7", limbs{7}, api.OK)
	readIs(t, strings.Repeat("0", api.MaxDigits+1), nil, api.ErrLong)
	readIs(t, strings.Repeat("x", api.MaxDigits+1), nil, api.ErrLong)
	readIs(t, strings.Repeat("x", api.MaxDigits), nil, api.ErrText)
	// Bytes are counted, not runes: 2,451 runes here.
	readIs(t, strings.Repeat("\u00e9", 2450)+"1", nil, api.ErrLong)
	readIs(t, strings.Repeat("\u00e9", 2450), nil, api.ErrText)
}

func TestP3_4_ReadWrong(t *testing.T) {
	for _, s := range []string{"", "+1", "-1", "-0", "1 ", " 1", "1.", "1e3", "0x1", "1_0", "1,0", "/", ":", "1\x00", "\xb1", "\xff", "1\xc3\xa9", "\uff11", "\u0661", "\u0130", "1\u0431", "12345678901234567890x", "x12345678901234567890"} {
		readIs(t, s, nil, api.ErrText)
	}
	for b := range 256 {
		if s := "4" + string([]byte{byte(b)}); b < '0' || b > '9' {
			readIs(t, s, nil, api.ErrText)
		}
	}
}

func TestP3_5_ThereAndBack(t *testing.T) {
	for n := range 255 {
		a := mixed(n, uint64(n+31))
		if s, e := natdiv.Text(a); e != api.OK {
			t.Errorf("Text of %d limbs: error %d", n, e)
		} else {
			readIs(t, s, a, api.OK)
		}
	}
	for _, s := range []string{"0", "5", "1000000000000000000", "10000000000000000000", "99999999999999999999", strings.Repeat("1203", 1000)} {
		for _, front := range []string{"", "0", "0000000000000000000"} {
			a, _ := natdiv.Read(front + s)
			textIs(t, a, s, api.OK)
		}
	}
	a, _ := natdiv.Read("00000")
	textIs(t, a, "0", api.OK)
}
