package ratios

import "quintadena/api"

const octave = 1200000 // millicents

// Cmp compares a with b.
func Cmp(a, b api.Ratio) (int, api.Errno) {
	if e := examine(a, b); e != api.OK {
		return 0, e
	}
	num, _ := timesPower(a, b, -1)
	return sign(powersOf(num)), api.OK
}

// Fold returns a less as many octaves as make it from 1 to below 2.
func Fold(a api.Ratio) (r api.Ratio, octaves int, e api.Errno) {
	if e := examine(a); e != api.OK {
		return api.Ratio{}, 0, e
	}
	// No ratio has so many octaves that Floor has an error.
	n, _, _ := Floor(powersOf(a.Num), int64(a.Den), 1)
	// This takes a multiple of Den, so the exponents remain in lowest terms.
	a.Num[0] -= int(n) * a.Den
	if !fits(a) {
		return api.Ratio{}, 0, api.ErrRange
	}
	return a, int(n), api.OK
}

// Cents returns a in millicents, rounded down, and whether that is exact.
func Cents(a api.Ratio) (m int64, exact bool, e api.Errno) {
	if e := examine(a); e != api.OK {
		return 0, false, e
	}
	return Floor(powersOf(a.Num), int64(a.Den), octave)
}
