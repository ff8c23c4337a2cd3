package temper

import (
	"math/big"
	"math/rand/v2"
	"strconv"
	"strings"
	"testing"

	"quintadena/api"
)

// textOf returns the text of a temperament.
func textOf(t api.Temper) string {
	comma := map[bool]string{true: "syntonic", false: "pythagorean"}[t.Syntonic]
	l := []string{t.Name, comma, strconv.Itoa(t.Wolf)}
	for _, p := range t.Parts {
		l = append(l, big.NewRat(int64(p.Num), int64(p.Den)).RatString())
	}
	return strings.Join(l, " ")
}

// P5.5: texts, and temperaments that are read from them.
func TestText(t *testing.T) {
	for _, x := range tempers(rand.New(rand.NewPCG(5, 12)), 1000) {
		s, e := Text(x)
		if s != textOf(x) || e != api.OK {
			t.Errorf("Text(%v) = %q, %d, want %q", x, s, e, textOf(x))
		}
		if y, e := Parse(s); y != x || e != api.OK {
			t.Errorf("Parse(%q) = %v, %d", s, y, e)
		}
	}
	want := "all syntonic 11 -47/24 -47/24 9/5 -47/24 -47/24 -47/24 -47/24 -47/24 -47/24 -47/24 -47/24 0"
	x := tempered(true, 11, api.CommaPart{Num: -47, Den: 24})
	x.Parts[2] = api.CommaPart{Num: 9, Den: 5}
	if s, e := Text(x); s != want || e != api.OK {
		t.Errorf("Text = %q, %d", s, e)
	}
	x = tempered(false, 10, api.CommaPart{Num: -2, Den: 1})
	want = "all pythagorean 10 -2 -2 -2 -2 -2 -2 -2 -2 -2 -2 0 -2"
	if s, e := Text(x); s != want || e != api.OK {
		t.Errorf("Text = %q, %d", s, e)
	}
}

// P5.5: words that are not those of a temperament, each in the place of a word of a text.
func TestParseOfOtherWords(t *testing.T) {
	text := "young pythagorean 11 1/6 1/6 1/6 1/6 1/6 1/6 0 0 0 0 0 0"
	bad := map[int][]string{
		0:  {"", "1young", "_", "abcdefghijklmnopq", "you-ng", "\"young\"", "yo\x00ng", "young\t", "ÿ"},
		1:  {"", "Pythagorean", "pythagoreans", "comma", "equal", "0", "pythagorean\n", "true"},
		2:  {"", "12", "-1", "011", "+11", "11.", "1", "0", "5", "x", "11/1", "99999999999999999999", "-0"},
		3:  {"", "1/", "/6", "/", "x", "1/x", "x/6", "1/1", "2/1", "0/1", "2/12", "1/25", "1/0", "1/-6", "-1/-6", "+1/6", "01/6", "1/06", "1/6/1", "1//6", "3", "-3", "13/6", "-13/6", "49/24", "0/6", "-0", "00", "1/+6", "1/6\t", "1/99999999999999999999", "99999999999999999999", "9223372036854775807", "-9223372036854775808/6", "0x1", "1_0", "1/7e0", "٣", "48", "-48/1"},
		14: {"", "1/6", "1", "0/1", "-0", "0 0", "0\n", "00", "0/", "x"},
	}
	for i, l := range bad {
		for _, s := range l {
			words := strings.Split(text, " ")
			words[i] = s
			line := strings.Join(words, " ")
			if x, e := Parse(line); x != (api.Temper{}) || e != api.ErrForm {
				t.Errorf("Parse(%q) = %v, %d", line, x, e)
			}
		}
	}
	// Words of valid numbers that have no common denominator.
	wide := strings.Replace(strings.Replace(text, "1/6", "1/7", 1), "1/6", "1/5", 1)
	if x, e := Parse(wide); x != (api.Temper{}) || e != api.ErrForm {
		t.Errorf("Parse(%q) = %v, %d", wide, x, e)
	}
}

// P5.5: strings of other forms and lengths.
func TestParseOfOthers(t *testing.T) {
	text := "young pythagorean 11 1/6 1/6 1/6 1/6 1/6 1/6 0 0 0 0 0 0"
	for _, s := range []string{
		"", " ", "young", text + " ", " " + text, text + " 0", text + "\n", text[:len(text)-2],
		strings.Replace(text, " ", "  ", 1), strings.Replace(text, " ", "\t", 1), strings.ReplaceAll(text, " ", ""),
		strings.Repeat(" ", 14), strings.Repeat(" ", 200), strings.Repeat("0 ", 100), strings.Repeat("x", 200),
		text + strings.Repeat(" ", 200-len(text)), text + strings.Repeat("0", 200-len(text)),
	} {
		if x, e := Parse(s); x != (api.Temper{}) || e != api.ErrForm {
			t.Errorf("Parse(%q) = %v, %d", s, x, e)
		}
	}
	for _, s := range []string{text + strings.Repeat(" ", 201-len(text)), strings.Repeat("x", 201), strings.Repeat("0 ", 100000)} {
		if x, e := Parse(s); x != (api.Temper{}) || e != api.ErrLong {
			t.Errorf("Parse of %d bytes = %v, %d", len(s), x, e)
		}
	}
}

// P5.5: texts that are changed a little are the text of what Parse makes of them, or of nothing.
func TestParseOfChanged(t *testing.T) {
	source := rand.New(rand.NewPCG(5, 13))
	const letters = "0123456789/- +xyPs\x00\xff"
	read := 0
	for range 20000 {
		s := textOf(anyTemper(source))
		i, c := source.IntN(len(s)), letters[source.IntN(len(letters))]
		switch source.IntN(3) {
		case 0:
			s = s[:i] + s[i+1:]
		case 1:
			s = s[:i] + string([]byte{c}) + s[i:]
		default:
			s = s[:i] + string([]byte{c}) + s[i+1:]
		}
		x, e := Parse(s)
		if e == api.OK {
			read++
		}
		if e == api.OK && (Check(x) != api.OK || textOf(x) != s) || e != api.OK && (e != api.ErrForm || x != api.Temper{}) {
			t.Errorf("Parse(%q) = %v, %d", s, x, e)
		}
	}
	if read < 1000 {
		t.Errorf("only %d texts are read", read)
	}
}
