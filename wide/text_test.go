package wide

import (
	"math/big"
	"slices"
	"strconv"
	"strings"
	"testing"

	"quintadena/api"
)

// P2.2 and P2.9
func TestText(t *testing.T) {
	l := numbers(512)
	for n := range 100 {
		power := new(big.Int).Exp(big.NewInt(10), big.NewInt(int64(n)), nil)
		l = append(l, natOf(power), natOf(new(big.Int).Sub(power, big.NewInt(1))), natOf(new(big.Int).Add(power, big.NewInt(7))))
	}
	for _, a := range l {
		want := bigOf(a).String()
		s, e := Text(a)
		if s != want || e != api.OK {
			t.Errorf("Text of %s: %s, %d", want, s, e)
		}
		back, e := Parse(s)
		if len(s) <= 4900 && (!slices.Equal(back, a) || e != api.OK) {
			t.Errorf("Parse(%s): %d limbs, %d", s, len(back), e)
		}
		if len(s) > 4900 && (len(back) != 0 || e != api.ErrLong) {
			t.Errorf("Parse of %d digits: %d limbs, %d", len(s), len(back), e)
		}
	}
}

// P2.2
func TestParse(t *testing.T) {
	for _, s := range []string{"", "007", "00", "01", "-1", "-0", "+1", " 1", "1 ", "1_0", "0x1", "1e3", "1.0", "a", "-", "+", "1234567890+12345678", "123456789 123456789", "1234567890_12345678", "123456789-12345678", "12345678901234567x", "\xb2", "1\x00", strings.Repeat("0", 4900), strings.Repeat("1", 4899) + "x"} {
		if a, e := Parse(s); len(a) != 0 || e != api.ErrForm {
			t.Errorf("Parse(%.30q): %d limbs, %d", s, len(a), e)
		}
	}
	for _, s := range []string{strings.Repeat("1", 4901), strings.Repeat("0", 4901), strings.Repeat("x", 4901)} {
		if a, e := Parse(s); len(a) != 0 || e != api.ErrLong {
			t.Errorf("Parse(%.30q): %d limbs, %d", s, len(a), e)
		}
	}
	for _, n := range []int{1, 2, 8, 9, 10, 17, 18, 19, 27, 28, 4899, 4900} {
		for _, s := range []string{strings.Repeat("9", n), "1" + strings.Repeat("0", n-1)} {
			want, _ := new(big.Int).SetString(s, 10)
			a, e := Parse(s)
			same(t, "Parse", a, e, want)
			if text, e := Text(a); text != s || e != api.OK {
				t.Errorf("Text of Parse(%.30q): %.30q, %d", s, text, e)
			}
		}
	}
}

// P2.2: every short string is the text of a number, or has not the form.
func TestParseOfEveryShortString(t *testing.T) {
	alphabet := "019-+_ a"
	last := []string{""}
	for range 5 {
		var next []string
		for _, s := range last {
			for i := range len(alphabet) {
				next = append(next, s+alphabet[i:i+1])
			}
		}
		for _, s := range next {
			want, e := uint64(0), api.ErrForm
			if n, err := strconv.ParseUint(s, 10, 64); err == nil && strconv.FormatUint(n, 10) == s {
				want, e = n, api.OK
			}
			if a, got := Parse(s); !slices.Equal(a, Of(want)) || got != e {
				t.Errorf("Parse(%q): %v, %d", s, a, got)
			}
		}
		last = next
	}
}
