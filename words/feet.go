package words

import (
	"strings"

	"quintadena/api"
)

// Feet returns the text of the footage f.
func Feet(f api.Feet) (string, api.Errno) {
	if !footage(f) {
		return "", api.ErrArg
	}
	if f.Den == 1 {
		return Digits(int64(f.Num)), api.OK
	}
	part := Digits(int64(f.Num%f.Den)) + "/" + Digits(int64(f.Den))
	if f.Num < f.Den {
		return part, api.OK
	}
	return Digits(int64(f.Num/f.Den)) + "+" + part, api.OK
}

// ParseFeet returns the footage whose text is s.
func ParseFeet(s string) (api.Feet, api.Errno) {
	f, ok := mixedNumber(s)
	if !ok {
		return api.Feet{}, api.ErrForm
	}
	// Other ways to write a number, such as 8/3 or 2+4/6, are told by its text.
	if text, e := Feet(f); e != api.OK || text != s {
		return api.Feet{}, api.ErrForm
	}
	return f, api.OK
}

// mixedNumber reads a whole number, a fraction, or both with a + between them, not necessarily in lowest terms.
func mixedNumber(s string) (api.Feet, bool) {
	wholePart, fraction, both := strings.Cut(s, "+")
	if !both && strings.Contains(s, "/") {
		wholePart, fraction = "0", s
	} else if !both {
		fraction = "0/1"
	}
	over, under, _ := strings.Cut(fraction, "/")
	w, e1 := Int(wholePart, 0, api.MaxFeet)
	num, e2 := Int(over, 0, api.MaxFeetOf)
	den, e3 := Int(under, 1, api.MaxFeetOf)
	if e1 != api.OK || e2 != api.OK || e3 != api.OK {
		return api.Feet{}, false
	}
	return api.Feet{Num: int(w*den + num), Den: int(den)}, true
}

// footage reports whether f is a footage.
func footage(f api.Feet) bool {
	if f.Den < 1 || f.Den > api.MaxFeetOf || f.Num < 1 || f.Num > api.MaxFeet*f.Den {
		return false
	}
	return commonDivisor(f.Num, f.Den) == 1
}

func commonDivisor(a, b int) int {
	for b != 0 {
		a, b = b, a%b
	}
	return a
}
