package ratios

import (
	"math/rand/v2"
	"strconv"
	"strings"
	"testing"

	"quintadena/api"
)

// textOf returns the text of a, with the exponents as fractions.
func textOf(a api.Ratio) string {
	var l []string
	for i, x := range exponentsOf(a) {
		if x.Sign() != 0 {
			l = append(l, strconv.Itoa([]int{2, 3, 5, 7, 11, 13}[i])+"^"+x.RatString())
		}
	}
	if len(l) == 0 {
		return "1"
	}
	return strings.Join(l, " ")
}

// P4.6: texts, and ratios that are read from them.
func TestText(t *testing.T) {
	for s, a := range map[string]api.Ratio{
		"1":                  one(),
		"2^-1 3^1":           sure(Of(3, 2)),
		"5^1/4":              {Num: [6]int{2: 1}, Den: 4},
		"3^-1/4 5^1/4":       {Num: [6]int{1: -1, 2: 1}, Den: 4},
		"2^-19/12 3^1":       {Num: [6]int{-19, 12}, Den: 12},
		"2^1/2 3^1/3 13^1/5": {Num: [6]int{0: 15, 1: 10, 5: 6}, Den: 30},
		"7^100000 11^-99999": {Num: [6]int{3: 100000, 4: -99999}, Den: 1},
		"13^-1/1000":         {Num: [6]int{5: -1}, Den: 1000},
	} {
		if got, e := Text(a); got != s || e != api.OK {
			t.Errorf("Text(%v) = %q, %d, want %q", a, got, e, s)
		}
		if got, e := Parse(s); got != a || e != api.OK {
			t.Errorf("Parse(%q) = %v, %d, want %v", s, got, e, a)
		}
	}
	source := rand.New(rand.NewPCG(4, 14))
	for _, a := range ratiosOf(source, 300) {
		s, e := Text(a)
		if s != textOf(a) || e != api.OK {
			t.Errorf("Text(%v) = %q, %d", a, s, e)
		}
		if got, e := Parse(s); got != a || e != api.OK {
			t.Errorf("Parse(%q) = %v, %d", s, got, e)
		}
	}
}

// P4.6: strings that are not the text of a ratio.
func TestParseOfOthers(t *testing.T) {
	for _, s := range []string{
		"", " ", "0", "2", "1 ", " 1", "1 2^1", "2^1 1", "1^1", "01", "-1", "+1", "1/1",
		"2^", "^1", "^", "2^1^1", "2^^1", "2^1 ", " 2^1", "2^1  3^1", "2^1\t3^1", "2^1\n", "2 ^1", "2^ 1",
		"3^1 2^-1", "2^1 2^1", "2^1 2^-1", "2^1 3^1 2^1", "13^1 11^1",
		"4^1", "17^1", "6^1", "02^1", "+2^1", "-2^1", "2.^1", "0^1", "1^0",
		"2^0", "2^-0", "2^+1", "2^01", "2^--1", "2^-", "2^1e1", "2^0x1", "2^1_0", "2^1.0", "2^٣",
		"2^1/", "2^/2", "2^1/1", "2^1/0", "2^0/1", "2^2/4", "2^4/2", "2^1/-2", "2^-1/-2", "2^1/+2", "2^1/02", "2^1/2/2", "2^1//2",
		"2^100001", "2^-100001", "2^1/1001", "2^99999999999999999999", "2^1/99999999999999999999", "2^9223372036854775807", "2^-9223372036854775808", "2^1/9223372036854775807",
		"2^1/7 3^1/11 5^1/13", "2^1/999 3^1/998", "2^100000 3^1/2", "2^50001 13^1/2",
		strings.Repeat("2", 200), "2^1" + strings.Repeat(" ", 197), strings.Repeat("2^1 ", 49) + "3^12",
	} {
		if r, e := Parse(s); r != (api.Ratio{}) || e != api.ErrForm {
			t.Errorf("Parse(%q) = %v, %d", s, r, e)
		}
	}
	for _, s := range []string{strings.Repeat("1", 201), "2^1" + strings.Repeat(" ", 198), strings.Repeat("x", 100000)} {
		if r, e := Parse(s); r != (api.Ratio{}) || e != api.ErrLong {
			t.Errorf("Parse of %d bytes = %v, %d", len(s), r, e)
		}
	}
}

// P4.6: texts that are changed a little are the text of what Parse makes of them, or of nothing.
func TestParseOfChanged(t *testing.T) {
	source := rand.New(rand.NewPCG(4, 15))
	const letters = "0123456789^/- +x\x00\xff"
	read := 0
	for range 20000 {
		s := textOf(anyRatio(source, 30, 12))
		i, c := source.IntN(len(s)), letters[source.IntN(len(letters))]
		switch source.IntN(3) {
		case 0:
			s = s[:i] + s[i+1:]
		case 1:
			s = s[:i] + string(rune(c)) + s[i:]
		default:
			s = s[:i] + string(rune(c)) + s[i+1:]
		}
		r, e := Parse(s)
		if e == api.OK {
			read++
		}
		if e == api.OK && (Check(r) != api.OK || textOf(r) != s) || e != api.OK && (e != api.ErrForm || r != api.Ratio{}) {
			t.Errorf("Parse(%q) = %v, %d", s, r, e)
		}
	}
	if read < 1000 {
		t.Errorf("only %d texts are read", read)
	}
}
