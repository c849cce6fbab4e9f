package layout_test

import (
	"testing"

	"gnomon/api"
	"gnomon/layout"
	"gnomon/oracle"
)

// The document's table of formats.
func TestWidthsAreTheTables(t *testing.T) {
	for _, c := range []struct {
		f                    api.Format
		w                    layout.Widths
		sign, infinity, nan  uint64
		beyond, greatestUnit int
	}{
		{api.Single, layout.Widths{Pattern: 32, Mantissa: 24, Least: -149}, 1 << 31, 0x7F800000, 0x7FC00001, 128, 104},
		{api.Double, layout.Widths{Pattern: 64, Mantissa: 53, Least: -1074}, 1 << 63, 0x7FF0000000000000, 0x7FF8000000000001, 1024, 971},
	} {
		w, e := layout.Of(c.f)
		if w != c.w || e != api.OK {
			t.Errorf("Of(%d) = %v, %d", c.f, w, e)
		}
		if w.Sign() != c.sign || w.Infinity() != c.infinity || w.Quiet() != c.nan || w.Beyond() != c.beyond {
			t.Errorf("of %d: sign %x, infinity %x, quiet NaN %x, beyond %d", c.f, w.Sign(), w.Infinity(), w.Quiet(), w.Beyond())
		}
		if got := w.Unit(c.beyond - 1); got != c.greatestUnit {
			t.Errorf("of %d: the greatest unit is %d", c.f, got)
		}
		if got := w.Unit(c.w.Least); got != c.w.Least {
			t.Errorf("of %d: the least unit is %d", c.f, got)
		}
	}
}

func TestSizeAndPartsAreOpposite(t *testing.T) {
	for _, f := range oracle.Formats() {
		w, _ := layout.Of(f)
		for _, b := range oracle.Finite(f) {
			size := b &^ w.Sign()
			man, unit := w.Parts(size)
			if w.Size(man, unit) != size || w.Signed(size != b, size) != b {
				t.Errorf("of %d, size %x: parts %x, %d make %x", f, size, man, unit, w.Size(man, unit))
			}
		}
		if got := w.Size(1<<w.Mantissa, w.Unit(w.Beyond()-1)); got != w.Infinity() {
			t.Errorf("of %d: behind the greatest comes %x", f, got)
		}
	}
}

func TestNoFormatHasNoWidths(t *testing.T) {
	for _, f := range oracle.NoFormats() {
		if w, e := layout.Of(f); w != (layout.Widths{}) || e != api.ErrArg {
			t.Errorf("Of(%d) = %v, %d", f, w, e)
		}
	}
}
