package temper

import (
	"quintadena/api"
	"quintadena/ratios"
)

// Fifths returns the sizes of the fifths, in order.
func Fifths(t api.Temper) ([]api.Ratio, api.Errno) {
	if e := Check(t); e != api.OK {
		return nil, e
	}
	l := fifthsOf(t)
	return l[:], api.OK
}

// Notes returns the notes of the classes, by class.
func Notes(t api.Temper) ([]api.Ratio, api.Errno) {
	if e := Check(t); e != api.OK {
		return nil, e
	}
	l := notesOf(t)
	return l[:], api.OK
}

// Between returns how far it is from the note of a class up to the next note of another one.
func Between(t api.Temper, from, to int) (api.Ratio, api.Errno) {
	if e := Check(t); e != api.OK {
		return api.Ratio{}, e
	}
	if !isClass(from) || !isClass(to) {
		return api.Ratio{}, api.ErrArg
	}
	return between(notesOf(t), from, to), api.OK
}

// fifthsOf returns the sizes of the fifths of a valid temperament.
func fifthsOf(t api.Temper) [classes]api.Ratio {
	var l [classes]api.Ratio
	left := ratio(1<<7, 1)
	for i, p := range t.Parts {
		if i != t.Wolf {
			l[i] = divide(ratio(3, 2), power(comma(t), p))
			left = divide(left, l[i])
		}
	}
	l[t.Wolf] = left
	return l
}

// notesOf returns the notes of a valid temperament. All fifths together are octaves, so the notes above Wolf, which are defined from above, are also those to which the fifths below lead, Wolf among them.
func notesOf(t api.Temper) [classes]api.Ratio {
	var l [classes]api.Ratio
	note := ratio(1, 1)
	for i, fifth := range fifthsOf(t) {
		l[7*i%classes] = note
		note = fold(multiply(note, fifth))
	}
	return l
}

// between returns how far it is up from a class to another one. Both notes are from 1 to below 2, so an octave is all that may be missing.
func between(notes [classes]api.Ratio, from, to int) api.Ratio {
	return fold(divide(notes[to], notes[from]))
}

func comma(t api.Temper) api.Ratio {
	if t.Syntonic {
		return ratio(81, 80)
	}
	return ratio(531441, 524288)
}

// The following functions have no errors: of at most eleven tempered fifths, which all ratios here consist of, and octaves that fold them, no exponent is above 460, with denominators up to MaxTemperDen. The bounds of ratios are far beyond that.

func ratio(num, den int64) api.Ratio {
	r, _ := ratios.Of(num, den)
	return r
}

func multiply(a, b api.Ratio) api.Ratio {
	r, _ := ratios.Mul(a, b)
	return r
}

func divide(a, b api.Ratio) api.Ratio {
	r, _ := ratios.Div(a, b)
	return r
}

func power(a api.Ratio, p api.CommaPart) api.Ratio {
	r, _ := ratios.Pow(a, p.Num, p.Den)
	return r
}

func fold(a api.Ratio) api.Ratio {
	r, _, _ := ratios.Fold(a)
	return r
}

func cents(a api.Ratio) int64 {
	m, _, _ := ratios.Cents(a)
	return m
}
