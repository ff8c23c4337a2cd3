package temper

import (
	"strings"

	"quintadena/api"
	"quintadena/words"
)

// The words for the commas.
const (
	syntonic    = "syntonic"
	pythagorean = "pythagorean"
)

// Text returns the words that t is written with.
func Text(t api.Temper) (string, api.Errno) {
	if e := Check(t); e != api.OK {
		return "", e
	}
	return text(t), api.OK
}

// Parse returns the temperament whose text is s.
func Parse(s string) (api.Temper, api.Errno) {
	if len(s) > api.MaxText {
		return api.Temper{}, api.ErrLong
	}
	t, ok := read(strings.Split(s, " "))
	// Of all ways to write these numbers, the text is the only one that is allowed.
	if !ok || Check(t) != api.OK || text(t) != s {
		return api.Temper{}, api.ErrForm
	}
	return t, api.OK
}

func text(t api.Temper) string {
	l := []string{t.Name, pythagorean, number(t.Wolf)}
	if t.Syntonic {
		l[1] = syntonic
	}
	for _, p := range t.Parts {
		part := number(p.Num)
		if p.Den != 1 {
			part += "/" + number(p.Den)
		}
		l = append(l, part)
	}
	return strings.Join(l, " ")
}

// read returns the temperament that the words of a text stand for, and whether they may: it need not be valid, nor have these words.
func read(l []string) (t api.Temper, ok bool) {
	if len(l) != 3+len(t.Parts) {
		return api.Temper{}, false
	}
	t.Name = strings.Clone(l[0])
	t.Syntonic = l[1] == syntonic
	t.Wolf = readNumber(l[2])
	for i, s := range l[3:] {
		num, den, divided := strings.Cut(s, "/")
		if !divided {
			den = "1"
		}
		t.Parts[i] = api.CommaPart{Num: readNumber(num), Den: readNumber(den)}
	}
	return t, true
}

func number(n int) string {
	return words.Digits(int64(n))
}

// readNumber returns the number whose digits are s, or 0 if a temperament has no such number.
func readNumber(s string) int {
	n, _ := words.Int(s, -2*maxDen, 2*maxDen)
	return int(n)
}
