package words

import (
	"math"
	"testing"

	"quintadena/api"
)

// P1.4
func TestFeet(t *testing.T) {
	for f, want := range map[api.Feet]string{{Num: 8, Den: 1}: "8", {Num: 1, Den: 1}: "1", {Num: 64, Den: 1}: "64", {Num: 8, Den: 3}: "2+2/3", {Num: 2, Den: 3}: "2/3", {Num: 8, Den: 5}: "1+3/5", {Num: 1, Den: 15}: "1/15", {Num: 959, Den: 15}: "63+14/15", {Num: 16, Den: 15}: "1+1/15"} {
		if s, e := Feet(f); s != want || e != api.OK {
			t.Errorf("Feet(%v): %s, %d", f, s, e)
		}
	}
	for _, f := range []api.Feet{{}, {Num: 0, Den: 1}, {Num: 1, Den: 0}, {Num: 4, Den: 2}, {Num: 10, Den: 15}, {Num: 65, Den: 1}, {Num: 129, Den: 2}, {Num: 961, Den: 15}, {Num: 1, Den: 16}, {Num: -8, Den: 1}, {Num: 8, Den: -1}, {Num: -8, Den: -1}, {Num: math.MaxInt, Den: math.MaxInt}, {Num: math.MinInt, Den: math.MinInt}, {Num: math.MaxInt, Den: 1}, {Num: math.MinInt, Den: 15}} {
		if s, e := Feet(f); s != "" || e != api.ErrArg {
			t.Errorf("Feet(%v): %s, %d", f, s, e)
		}
	}
}

// P1.4
func TestParseFeet(t *testing.T) {
	for s, want := range map[string]api.Feet{"8": {Num: 8, Den: 1}, "64": {Num: 64, Den: 1}, "2+2/3": {Num: 8, Den: 3}, "1/2": {Num: 1, Den: 2}, "63+14/15": {Num: 959, Den: 15}} {
		if f, e := ParseFeet(s); f != want || e != api.OK {
			t.Errorf("ParseFeet(%q): %v, %d", s, f, e)
		}
	}
	for _, s := range []string{"", "0", "08", "65", "-8", "8/3", "8/1", "0/3", "2+4/6", "2+2/2", "2+0/1", "2+1/1", "2+0/3", "0+2/3", "02+2/3", "2+02/3", "2+2/03", "+2/3", "2+", "2+2", "2/", "/3", "+", "/", "2/3+2", "2+2/3+1", "2+2/3/4", "1/0", "2+1/0", "64+1/2", "1/16", "1+1/16", "2 2/3", " 8", "8 ", "8'", "99999999999999999999", "99999999999999999999/99999999999999999999"} {
		if f, e := ParseFeet(s); f != (api.Feet{}) || e != api.ErrForm {
			t.Errorf("ParseFeet(%q): %v, %d", s, f, e)
		}
	}
}

// allFootages returns every footage.
func allFootages() []api.Feet {
	var l []api.Feet
	for den := 1; den <= 15; den++ {
		for num := 1; num <= 64*den; num++ {
			lowest := true
			for d := 2; d <= den; d++ {
				lowest = lowest && (num%d != 0 || den%d != 0)
			}
			if lowest {
				l = append(l, api.Feet{Num: num, Den: den})
			}
		}
	}
	return l
}

// P1.4 and P1.8: the texts of all footages are different ones, and no other string is one.
func TestParseFeetOfFeet(t *testing.T) {
	texts := map[string]api.Feet{}
	for _, f := range allFootages() {
		s, e := Feet(f)
		if e != api.OK {
			t.Errorf("Feet(%v): %d", f, e)
		}
		if got, e := ParseFeet(s); got != f || e != api.OK {
			t.Errorf("ParseFeet of Feet(%v): %v, %d", f, got, e)
		}
		texts[s] = f
	}
	if len(texts) != len(allFootages()) {
		t.Errorf("%d texts of %d footages", len(texts), len(allFootages()))
	}
	eachString("01268+/-", 6, func(s string) {
		want, isOne := texts[s]
		f, e := ParseFeet(s)
		if f != want || isOne && e != api.OK || !isOne && e != api.ErrForm {
			t.Errorf("ParseFeet(%q): %v, %d", s, f, e)
		}
		if text, _ := Feet(f); e == api.OK && text != s {
			t.Errorf("Feet of ParseFeet(%q): %s", s, text)
		}
	})
}

// P1.4: what is a footage is not only said of those near the limits.
func TestFeetOfEveryPair(t *testing.T) {
	isOne := map[api.Feet]bool{}
	for _, f := range allFootages() {
		isOne[f] = true
	}
	for den := -3; den <= 20; den++ {
		for num := -70; num <= 1400; num++ {
			f := api.Feet{Num: num, Den: den}
			if _, e := Feet(f); isOne[f] != (e == api.OK) || !isOne[f] && e != api.ErrArg {
				t.Errorf("Feet(%v): %d", f, e)
			}
		}
	}
}
