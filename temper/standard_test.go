package temper

import (
	"testing"

	"quintadena/api"
)

// P5.4: all standard temperaments.
func TestStandard(t *testing.T) {
	for name, want := range map[string]string{
		"equal":        "equal pythagorean 11 1/12 1/12 1/12 1/12 1/12 1/12 1/12 1/12 1/12 1/12 1/12 0",
		"pythagorean":  "pythagorean pythagorean 8 0 0 0 0 0 0 0 0 0 0 0 0",
		"meantone":     "meantone syntonic 8 1/4 1/4 1/4 1/4 1/4 1/4 1/4 1/4 0 1/4 1/4 1/4",
		"werckmeister": "werckmeister pythagorean 11 1/4 1/4 1/4 0 0 1/4 0 0 0 0 0 0",
		"kirnberger":   "kirnberger syntonic 6 1/4 1/4 1/4 1/4 0 0 0 0 0 0 0 0",
		"vallotti":     "vallotti pythagorean 6 1/6 1/6 1/6 1/6 1/6 0 0 0 0 0 0 1/6",
		"young":        "young pythagorean 11 1/6 1/6 1/6 1/6 1/6 1/6 0 0 0 0 0 0",
	} {
		x, e := Standard(name)
		if e != api.OK || Check(x) != api.OK || sure(Text(x)) != want {
			t.Errorf("Standard(%s) = %v, %d, want %s", name, x, e, want)
		}
	}
}

// P5.4: the parts, not as they are written.
func TestPartsOfMeantone(t *testing.T) {
	x := sure(Standard("meantone"))
	want := tempered(true, 8, api.CommaPart{Num: 1, Den: 4})
	want.Name = "meantone"
	if x != want {
		t.Errorf("meantone is %v, want %v", x, want)
	}
}

// P5.4: no other names.
func TestStandardOfOthers(t *testing.T) {
	for _, name := range []string{"", "Equal", "equal ", " equal", "equa", "equall", "EQUAL", "meantone2", "just", "valotti", "vallotti\x00", "\xff"} {
		if x, e := Standard(name); x != (api.Temper{}) || e != api.ErrNone {
			t.Errorf("Standard(%q) = %v, %d", name, x, e)
		}
	}
}
