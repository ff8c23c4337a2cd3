package ratios

import (
	"strconv"
	"strings"

	"quintadena/api"
)

// Text returns the powers of primes whose product is a.
func Text(a api.Ratio) (string, api.Errno) {
	if e := examine(a); e != api.OK {
		return "", e
	}
	return text(a), api.OK
}

// Parse returns the ratio whose text is s.
func Parse(s string) (api.Ratio, api.Errno) {
	if len(s) > api.MaxText {
		return api.Ratio{}, api.ErrLong
	}
	r := api.Ratio{Den: 1}
	// The text of 1 has no powers.
	if s == text(r) {
		return r, api.OK
	}
	for _, field := range strings.Split(s, " ") {
		var e api.Errno
		if r, e = Mul(r, parsePower(field)); e != api.OK {
			return api.Ratio{}, api.ErrForm
		}
	}
	// Of all ways to write these powers, the text is the only one that is allowed.
	if text(r) != s {
		return api.Ratio{}, api.ErrForm
	}
	return r, api.OK
}

func text(a api.Ratio) string {
	var powers []string
	for i, n := range a.Num {
		if n != 0 {
			powers = append(powers, strconv.FormatInt(primes[i], 10)+"^"+quotient(n, a.Den))
		}
	}
	if len(powers) == 0 {
		return "1"
	}
	return strings.Join(powers, " ")
}

// quotient returns the text of num / den in lowest terms.
func quotient(num, den int) string {
	divisor := gcd(num, den)
	s := strconv.Itoa(num / divisor)
	if den > divisor {
		s += "/" + strconv.Itoa(den/divisor)
	}
	return s
}

// parsePower returns the power of a prime that s stands for, which may not be valid; if s stands for none, the zero value, which is not.
func parsePower(s string) api.Ratio {
	base, exponent, _ := strings.Cut(s, "^")
	first, second, divided := strings.Cut(exponent, "/")
	if !divided {
		second = "1"
	}
	num, numErr := strconv.Atoi(first)
	den, denErr := strconv.Atoi(second)
	if numErr != nil || denErr != nil {
		return api.Ratio{}
	}
	r := api.Ratio{Den: den}
	for i, p := range primes {
		if base == strconv.FormatInt(p, 10) {
			r.Num[i] = num
			return r
		}
	}
	return api.Ratio{}
}
