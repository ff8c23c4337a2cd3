package words

import (
	"math"
	"strconv"
	"strings"
	"testing"

	"quintadena/api"
)

// eachString calls do with every string of at most most bytes of an alphabet.
func eachString(alphabet string, most int, do func(string)) {
	do("")
	last := []string{""}
	for range most {
		var next []string
		for _, s := range last {
			for i := range len(alphabet) {
				next = append(next, s+alphabet[i:i+1])
			}
		}
		for _, s := range next {
			do(s)
		}
		last = next
	}
}

// P1.1
func TestName(t *testing.T) {
	for _, s := range []string{"a", "z", "A", "Z", "a_", "a0", "a9", "Great8_b", "abcdefghijklmnop"} {
		if !Name(s) {
			t.Errorf("Name(%q) is false", s)
		}
	}
	for _, s := range []string{"", "_", "0a", "9", "abcdefghijklmnopq", "a b", "a-", "a.", "a\"", "é", "a\x00", "a\xff"} {
		if Name(s) {
			t.Errorf("Name(%q) is true", s)
		}
	}
}

// P1.1
func TestNameOfEveryByte(t *testing.T) {
	letters := "abcdefghijklmnopqrstuvwxyzABCDEFGHIJKLMNOPQRSTUVWXYZ"
	for c := range 256 {
		s := string([]byte{byte(c)})
		if got, want := Name(s), strings.Contains(letters, s); got != want {
			t.Errorf("Name(%q): %v", s, got)
		}
		if got, want := Name("a"+s), strings.Contains(letters+"0123456789_", s); got != want {
			t.Errorf("Name(%q): %v", "a"+s, got)
		}
	}
}

// P1.1
func TestText(t *testing.T) {
	for c := range 256 {
		for _, s := range []string{string([]byte{byte(c)}), string([]byte{'a', byte(c)}), string([]byte{byte(c), 'a'})} {
			if got, want := Text(s), c >= 32 && c <= 126; got != want {
				t.Errorf("Text(%q): %v", s, got)
			}
		}
	}
	for n, want := range map[int]bool{0: true, 1: true, 199: true, 200: true, 201: false, 4000: false} {
		if Text(strings.Repeat("x", n)) != want {
			t.Errorf("Text of %d bytes: want %v", n, want)
		}
	}
}

// P1.2 and P1.8
func TestDigits(t *testing.T) {
	for n, want := range map[int64]string{0: "0", 7: "7", 10: "10", -1: "-1", -120: "-120", math.MaxInt64: "9223372036854775807", math.MinInt64: "-9223372036854775808"} {
		if s := Digits(n); s != want {
			t.Errorf("Digits(%d): %s", n, s)
		}
		if got, e := Int(want, math.MinInt64, math.MaxInt64); got != n || e != api.OK {
			t.Errorf("Int(%s): %d, %d", want, got, e)
		}
	}
	for n := int64(-1100); n <= 1100; n++ {
		if got, e := Int(Digits(n), -1100, 1100); got != n || e != api.OK {
			t.Errorf("Int of Digits(%d): %d, %d", n, got, e)
		}
	}
}

// P1.2
func TestInt(t *testing.T) {
	for _, x := range []struct {
		s           string
		least, most int64
		want        int64
		e           api.Errno
	}{
		{"5", 5, 5, 5, api.OK},
		{"5", 9, 0, 0, api.ErrArg},
		{"x", 1, 0, 0, api.ErrArg},
		{"07", 0, 9, 0, api.ErrForm},
		{"00", 0, 9, 0, api.ErrForm},
		{"-0", -9, 9, 0, api.ErrForm},
		{"-07", -9, 9, 0, api.ErrForm},
		{"-", -9, 9, 0, api.ErrForm},
		{"--1", -9, 9, 0, api.ErrForm},
		{"+1", 0, 9, 0, api.ErrForm},
		{" 1", 0, 9, 0, api.ErrForm},
		{"1_0", 0, 99, 0, api.ErrForm},
		{"0x1", 0, 99, 0, api.ErrForm},
		{"1-", 0, 99, 0, api.ErrForm},
		{"1.0", 0, 99, 0, api.ErrForm},
		{"12", 0, 9, 0, api.ErrRange},
		{"-1", 0, 9, 0, api.ErrRange},
		{"0", 1, 9, 0, api.ErrRange},
		{"9223372036854775808", math.MinInt64, math.MaxInt64, 0, api.ErrRange},
		{"-9223372036854775809", math.MinInt64, math.MaxInt64, 0, api.ErrRange},
		{strings.Repeat("9", 10000), math.MinInt64, math.MaxInt64, 0, api.ErrRange},
		{"-" + strings.Repeat("9", 10000), math.MinInt64, math.MaxInt64, 0, api.ErrRange},
		{strings.Repeat("9", 10000) + "x", math.MinInt64, math.MaxInt64, 0, api.ErrForm},
		{"0" + strings.Repeat("9", 10000), math.MinInt64, math.MaxInt64, 0, api.ErrForm},
	} {
		if n, e := Int(x.s, x.least, x.most); n != x.want || e != x.e {
			t.Errorf("Int(%.20q, %d, %d): %d, %d", x.s, x.least, x.most, n, e)
		}
	}
}

// P1.2: what is not the digits of the number that it denotes has not the form.
func TestIntOfEveryShortString(t *testing.T) {
	eachString("-+0129 ", 4, func(s string) {
		want, e := int64(0), api.ErrForm
		if n, err := strconv.ParseInt(s, 10, 64); err == nil && strconv.FormatInt(n, 10) == s {
			want, e = n, api.OK
		}
		if e == api.OK && (want < -20 || want > 920) {
			want, e = 0, api.ErrRange
		}
		if n, got := Int(s, -20, 920); n != want || got != e {
			t.Errorf("Int(%q): %d, %d", s, n, got)
		}
	})
}
