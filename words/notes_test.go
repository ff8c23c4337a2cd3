package words

import (
	"math"
	"testing"

	"quintadena/api"
)

// P1.3
func TestNote(t *testing.T) {
	for n, want := range map[int]string{0: "c-1", 1: "c#-1", 11: "b-1", 12: "c0", 60: "c4", 61: "c#4", 62: "d4", 63: "d#4", 64: "e4", 65: "f4", 66: "f#4", 67: "g4", 68: "g#4", 69: "a4", 70: "a#4", 71: "b4", 72: "c5", 127: "g9"} {
		if s, e := Note(n); s != want || e != api.OK {
			t.Errorf("Note(%d): %s, %d", n, s, e)
		}
	}
	for _, n := range []int{-1, -12, 128, math.MinInt, math.MaxInt} {
		if s, e := Note(n); s != "" || e != api.ErrRange {
			t.Errorf("Note(%d): %s, %d", n, s, e)
		}
	}
}

// P1.3
func TestParseNote(t *testing.T) {
	for s, want := range map[string]int{"c-1": 0, "b#-1": 12, "cb0": 11, "c4": 60, "b#3": 60, "cb4": 59, "e4": 64, "fb4": 64, "e#4": 65, "bb4": 70, "a#4": 70, "b4": 71, "g9": 127, "fb9": 124} {
		if n, e := ParseNote(s); n != want || e != api.OK {
			t.Errorf("ParseNote(%q): %d, %d", s, n, e)
		}
	}
	for _, s := range []string{"", "c", "b", "bb", "c#", "4", "h4", "C4", "c10", "c04", "c-0", "c-2", "c+1", "c--1", "c##4", "cbb4", "c#b4", "c 4", " c4", "c4 ", "#4", "c4#", "`4"} {
		if n, e := ParseNote(s); n != 0 || e != api.ErrForm {
			t.Errorf("ParseNote(%q): %d, %d", s, n, e)
		}
	}
	for _, s := range []string{"cb-1", "g#9", "ab9", "a9", "a#9", "bb9", "b9", "b#9"} {
		if n, e := ParseNote(s); n != 0 || e != api.ErrRange {
			t.Errorf("ParseNote(%q): %d, %d", s, n, e)
		}
	}
}

// spellings returns what every spelling denotes, as the terms say.
func spellings() map[string]int {
	all := map[string]int{}
	letters := map[string]int{"c": 0, "d": 2, "e": 4, "f": 5, "g": 7, "a": 9, "b": 11}
	octaves := map[string]int{"-1": -1, "0": 0, "1": 1, "2": 2, "3": 3, "4": 4, "5": 5, "6": 6, "7": 7, "8": 8, "9": 9}
	for letter, above := range letters {
		for octave, n := range octaves {
			all[letter+octave] = 12*(n+1) + above
			all[letter+"#"+octave] = 12*(n+1) + above + 1
			all[letter+"b"+octave] = 12*(n+1) + above - 1
		}
	}
	return all
}

// P1.3: every string of a few bytes is a spelling, or has not the form.
func TestParseNoteOfEveryShortString(t *testing.T) {
	all := spellings()
	found := 0
	eachString("abcdefgh#-0189", 4, func(s string) {
		want, isOne := all[s]
		e := api.OK
		if isOne {
			found++
		}
		if !isOne {
			e = api.ErrForm
		} else if want < 0 || want > 127 {
			want, e = 0, api.ErrRange
		}
		if n, got := ParseNote(s); n != want || got != e {
			t.Errorf("ParseNote(%q): %d, %d", s, n, got)
		}
	})
	// 7 letters with 3 signs, and the octaves -1, 0, 1, 8, 9.
	if found != 7*3*5 {
		t.Errorf("%d spellings were tried", found)
	}
}

// P1.8
func TestParseNoteOfNote(t *testing.T) {
	for n := range api.MaxKey + 1 {
		s, e := Note(n)
		if got, e2 := ParseNote(s); e != api.OK || e2 != api.OK || got != n {
			t.Errorf("ParseNote of Note(%d): %d, %d, %d", n, got, e, e2)
		}
	}
}

// P1.9
func TestSharpsAndFlats(t *testing.T) {
	for _, x := range []struct{ low, high string }{{"c", "d"}, {"d", "e"}, {"f", "g"}, {"g", "a"}, {"a", "b"}} {
		for octave := int64(-1); octave <= 9; octave++ {
			a, e1 := ParseNote(x.low + "#" + Digits(octave))
			b, e2 := ParseNote(x.high + "b" + Digits(octave))
			if a != b || e1 != e2 {
				t.Errorf("%s# and %sb of %d: %d, %d and %d, %d", x.low, x.high, octave, a, e1, b, e2)
			}
		}
	}
}
