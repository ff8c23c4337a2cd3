// Package words is layer 1: it reads and writes what the lines of later layers consist of. See shared/doc/01-words.md.
package words

import (
	"strconv"
	"strings"

	"quintadena/api"
)

// Name reports whether s is a name.
func Name(s string) bool {
	if s == "" || len(s) > api.MaxName || !letter(s[0]) {
		return false
	}
	for i := range len(s) {
		if c := s[i]; !letter(c) && !digit(c) && c != '_' {
			return false
		}
	}
	return true
}

// Text reports whether s is a string.
func Text(s string) bool {
	return len(s) <= api.MaxText && within(s, ' ', '~')
}

// Digits returns the digits of n.
func Digits(n int64) string {
	return strconv.FormatInt(n, 10)
}

// Int returns the number from least to most whose digits are s.
func Int(s string, least, most int64) (int64, api.Errno) {
	if least > most {
		return 0, api.ErrArg
	}
	if !whole(s) {
		return 0, api.ErrForm
	}
	// ParseInt only fails here where the number does not fit an int64, so not between least and most either.
	n, err := strconv.ParseInt(s, 10, 64)
	if err != nil || n < least || n > most {
		return 0, api.ErrRange
	}
	return n, api.OK
}

// whole reports whether s is the digits of a whole number of any size.
func whole(s string) bool {
	if s == "0" {
		return true
	}
	d := strings.TrimPrefix(s, "-")
	return d != "" && d[0] != '0' && within(d, '0', '9')
}

// within reports whether each byte of s is from low to high.
func within(s string, low, high byte) bool {
	for i := range len(s) {
		if s[i] < low || s[i] > high {
			return false
		}
	}
	return true
}

func letter(c byte) bool {
	return c >= 'a' && c <= 'z' || c >= 'A' && c <= 'Z'
}

func digit(c byte) bool {
	return c >= '0' && c <= '9'
}
