package soft_test

import (
	"slices"
	"strconv"
	"strings"
	"testing"

	"gnomon/api"
	"gnomon/oracle"
)

func TestP9_1_NaNInEachPlace(t *testing.T) {
	for _, f := range oracle.Formats() {
		for _, o := range arithmetic {
			for place := range o.places {
				for _, wrong := range oracle.NaNs(f) {
					for _, b := range append(edges(f), wrong, quiet(f)) {
						o.is(t, f, quiet(f), at(o.places, place, b, wrong)...)
					}
				}
			}
		}
	}
}

// An infinity times a nought is the NaN, whatever is added; beside a NaN too.
func TestP9_1_NaNBesideAllPairs(t *testing.T) {
	for _, f := range oracle.Formats() {
		for _, a := range edges(f) {
			for _, b := range edges(f) {
				for _, wrong := range oracle.NaNs(f) {
					fma.is(t, f, quiet(f), a, b, wrong)
					fma.is(t, f, quiet(f), a, wrong, b)
					fma.is(t, f, quiet(f), wrong, a, b)
				}
			}
		}
	}
}

// kinds: the operands of the tables below, a row and a column each.
var kinds = strings.Fields("inf -inf 0 -0 1 -1")

// What the chapter says of each pair of kinds; the first operand's row, the second one's column.
var (
	sums = table(
		"inf  nan  inf  inf  inf  inf",
		"nan  -inf -inf -inf -inf -inf",
		"inf  -inf 0    0    1    -1",
		"inf  -inf 0    -0   1    -1",
		"inf  -inf 1    1    2    0",
		"inf  -inf -1   -1   0    -2")
	differences = table(
		"nan  inf  inf  inf  inf  inf",
		"-inf nan  -inf -inf -inf -inf",
		"-inf inf  0    0    -1   1",
		"-inf inf  -0   0    -1   1",
		"-inf inf  1    1    0    2",
		"-inf inf  -1   -1   -2   0")
	products = table(
		"inf  -inf nan  nan  inf  -inf",
		"-inf inf  nan  nan  -inf inf",
		"nan  nan  0    -0   0    -0",
		"nan  nan  -0   0    -0   0",
		"inf  -inf 0    -0   1    -1",
		"-inf inf  -0   0    -1   1")
	quotients = table(
		"nan  nan  inf  -inf inf  -inf",
		"nan  nan  -inf inf  -inf inf",
		"0    -0   nan  nan  0    -0",
		"-0   0    nan  nan  -0   0",
		"0    -0   inf  -inf 1    -1",
		"-0   0    -inf inf  -1   1")
	orders = table(
		"0    1    1    1    1    1",
		"-1   0    -1   -1   -1   -1",
		"-1   1    0    0    -1   1",
		"-1   1    0    0    -1   1",
		"-1   1    1    1    0    1",
		"-1   1    -1   -1   -1   0")
)

func table(rows ...string) [][]string {
	var out [][]string
	for _, r := range rows {
		out = append(out, strings.Fields(r))
	}
	return out
}

// named: the pattern of a number that a table names.
func named(f api.Format, name string) uint64 {
	if name == "nan" {
		return quiet(f)
	}
	x, _ := strconv.ParseFloat(name, 64)
	return oracle.Bits(f, x)
}

func (o op) keeps(t *testing.T, rows [][]string) {
	t.Helper()
	for _, f := range oracle.Formats() {
		for i, a := range kinds {
			for k, b := range kinds {
				o.is(t, f, named(f, rows[i][k]), named(f, a), named(f, b))
			}
		}
	}
}

func TestP9_3_Kinds(t *testing.T) {
	add.keeps(t, sums)
	sub.keeps(t, differences)
}

func TestP9_4_Kinds(t *testing.T) { mul.keeps(t, products) }

func TestP9_5_Kinds(t *testing.T) { div.keeps(t, quotients) }

// The fused sum's kinds are those of the product's row in the table of sums.
func TestP9_7_Kinds(t *testing.T) {
	for _, f := range oracle.Formats() {
		for i, a := range kinds {
			for k, b := range kinds {
				for n, c := range kinds {
					want := "nan"
					if row := slices.Index(kinds, products[i][k]); row >= 0 {
						want = sums[row][n]
					}
					fma.is(t, f, named(f, want), named(f, a), named(f, b), named(f, c))
				}
			}
		}
	}
}

// The product is not rounded ahead of the sum: one that is beyond the greatest, or all but nought, is a finite number all the same.
func TestP9_7_UnroundedProducts(t *testing.T) {
	for _, f := range oracle.Formats() {
		end := oracle.Infinity(f)
		most, minus := end-1, oracle.Minus(f, 0)
		fma.is(t, f, end, most, most, end)
		fma.is(t, f, end|minus, most, most, end|minus)
		fma.is(t, f, end, most|minus, most, end)
		fma.is(t, f, end, most, most, most|minus)
		fma.is(t, f, most, most, oracle.Bits(f, 2), most|minus)
		fma.is(t, f, 0, 1, 1, 0)
		fma.is(t, f, 0, 1, 1, minus)
		fma.is(t, f, minus, 1|minus, 1, 0)
		fma.is(t, f, minus, 1, 1|minus, minus)
		fma.is(t, f, 1, 1, 1, 1)
		fma.is(t, f, 1|minus, 1, 1, 1|minus)
	}
}

// Sums, products and fused results that are just nought, of each pair of signs.
func TestP9_3_to_7_NoughtsThatComeOut(t *testing.T) {
	for _, f := range oracle.Formats() {
		one, minus := oracle.Bits(f, 1), oracle.Minus(f, 0)
		for _, b := range oracle.Finite(f)[2:] {
			other := oracle.Minus(f, b)
			add.is(t, f, 0, b, other)
			sub.is(t, f, 0, b, b)
			fma.is(t, f, 0, b, one, other)
			fma.is(t, f, 0, one|minus, b, b)
			sign := b & minus
			for _, nought := range []uint64{0, minus} {
				add.is(t, f, b, b, nought)
				add.is(t, f, b, nought, b)
				sub.is(t, f, b, b, nought)
				sub.is(t, f, other, nought, b)
				product := sign ^ nought
				mul.is(t, f, product, b, nought)
				mul.is(t, f, product, nought, b)
				div.is(t, f, product, nought, b)
				div.is(t, f, product|oracle.Infinity(f), b, nought)
				for _, added := range []uint64{0, minus} {
					fma.is(t, f, product&added, b, nought, added)
					fma.is(t, f, product&added, nought, b, added)
				}
				fma.is(t, f, b, nought, one, b)
			}
		}
	}
}

func TestP9_6_Kinds(t *testing.T) {
	for _, f := range oracle.Formats() {
		end, minus := oracle.Infinity(f), oracle.Minus(f, 0)
		root.is(t, f, 0, 0)
		root.is(t, f, minus, minus)
		root.is(t, f, end, end)
		root.is(t, f, quiet(f), end|minus)
		for _, b := range oracle.Finite(f)[2:] {
			root.is(t, f, quiet(f), b|minus)
		}
	}
}

func TestP9_8_NegAndAbs(t *testing.T) {
	for _, f := range oracle.Formats() {
		end, minus := oracle.Infinity(f), oracle.Minus(f, 0)
		for _, b := range append(oracle.Finite(f), end, end|minus) {
			neg.is(t, f, b^minus, b)
			abs.is(t, f, b&^minus, b)
		}
	}
}

func TestP9_9_Kinds(t *testing.T) {
	for i, a := range kinds {
		for k, b := range kinds {
			want, _ := strconv.Atoi(orders[i][k])
			for _, f := range oracle.Formats() {
				order.is(t, f, uint64(want), named(f, a), named(f, b))
			}
		}
	}
	for _, f := range oracle.Formats() {
		for _, wrong := range oracle.NaNs(f) {
			for _, b := range append(patterns(f), wrong) {
				order.is(t, f, none, wrong, b)
				order.is(t, f, none, b, wrong)
			}
		}
	}
}

// Neighbours of each number, on both sides.
func TestP9_9_Neighbours(t *testing.T) {
	for _, f := range oracle.Formats() {
		minus := oracle.Minus(f, 0)
		for _, b := range oracle.Finite(f) {
			size := b &^ minus
			order.is(t, f, same, b, b)
			order.is(t, f, below, size, size+1)
			order.is(t, f, above, size+1, size)
			order.is(t, f, above, size|minus, (size+1)|minus)
			order.is(t, f, below, (size+1)|minus, size|minus)
			order.is(t, f, below, (size+1)|minus, size)
			order.is(t, f, above, size+1, size|minus)
		}
	}
}
