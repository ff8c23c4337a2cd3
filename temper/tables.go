package temper

import (
	"cmp"
	"slices"

	"quintadena/api"
)

const (
	semitone = 100000 // millicents
	maxMost  = classes * semitone
)

// Cents returns the notes in millicents, by class.
func Cents(t api.Temper) ([]int64, api.Errno) {
	if e := Check(t); e != api.OK {
		return nil, e
	}
	return centsAbove(t, 0), api.OK
}

// Off returns by how many millicents the notes are above those of twelve equal semitones, by class.
func Off(t api.Temper) ([]int64, api.Errno) {
	if e := Check(t); e != api.OK {
		return nil, e
	}
	return centsAbove(t, semitone), api.OK
}

// Triad returns by how many millicents the third and the fifth above a class exceed the pure ones.
func Triad(t api.Temper, class int) (third, fifth int64, e api.Errno) {
	if e := Check(t); e != api.OK {
		return 0, 0, e
	}
	if !isClass(class) {
		return 0, 0, api.ErrArg
	}
	third, fifth = triad(notesOf(t), class)
	return third, fifth, api.OK
}

// Keys returns the classes, those with the purest triads first.
func Keys(t api.Temper) ([]int, api.Errno) {
	if e := Check(t); e != api.OK {
		return nil, e
	}
	notes := notesOf(t)
	var keys [classes]int
	var off [classes]int64
	for class := range classes {
		third, fifth := triad(notes, class)
		keys[class], off[class] = class, distance(third)+distance(fifth)
	}
	slices.SortFunc(keys[:], func(a, b int) int {
		return cmp.Or(cmp.Compare(off[a], off[b]), cmp.Compare(a, b))
	})
	return keys[:], api.OK
}

// Wolves returns the classes whose fifths are off by more than most millicents.
func Wolves(t api.Temper, most int64) ([]int, api.Errno) {
	if e := Check(t); e != api.OK {
		return nil, e
	}
	if most < 0 || most > maxMost {
		return nil, api.ErrArg
	}
	notes := notesOf(t)
	var l []int
	for class := range classes {
		if _, fifth := triad(notes, class); distance(fifth) > most {
			l = append(l, class)
		}
	}
	return l, api.OK
}

// centsAbove returns the notes of a valid temperament in millicents, less step for each class.
func centsAbove(t api.Temper, step int64) []int64 {
	l := make([]int64, classes)
	for class, note := range notesOf(t) {
		l[class] = cents(note) - step*int64(class)
	}
	return l
}

// triad returns the numbers of Triad.
func triad(notes [classes]api.Ratio, class int) (third, fifth int64) {
	third = cents(divide(between(notes, class, (class+4)%classes), ratio(5, 4)))
	fifth = cents(divide(between(notes, class, (class+7)%classes), ratio(3, 2)))
	return third, fifth
}

func distance(n int64) int64 {
	return max(n, -n)
}
