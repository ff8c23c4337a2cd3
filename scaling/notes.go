package scaling

import (
	"cmp"
	"iter"

	"quintadena/api"
)

// Halved returns the first note above another one whose pipe is surely half as wide, or less.
func Halved(s api.SlScale, note int) (int, api.Errno) {
	if e := examine(s, note); e != api.OK {
		return 0, e
	}
	whole := diameter(s, note)
	return first(note+1, func(n int) bool {
		return 2*diameter(s, n).Hi <= whole.Lo
	})
}

// Wider returns how many semitones below a note (above it, if that is below 0) the lowest note of t is at which s is surely as wide at the note.
func Wider(s, t api.SlScale, note int) (int, api.Errno) {
	// The error of t comes before that of the note.
	if e := cmp.Or(Check(s), Check(t), examine(s, note)); e != api.OK {
		return 0, e
	}
	wide := diameter(s, note)
	lowest, e := first(firstNote(t), func(n int) bool {
		return wide.Lo >= diameter(t, n).Hi
	})
	if e != api.OK {
		return 0, e
	}
	return note - lowest, api.OK
}

// first returns the first note, from low on, that is as asked for, or ErrNone.
func first(low int, isIt func(note int) bool) (int, api.Errno) {
	for n := range notes(low, api.MaxSound) {
		if isIt(n) {
			return n, api.OK
		}
	}
	return 0, api.ErrNone
}

// notes yields the notes low to high.
func notes(low, high int) iter.Seq[int] {
	return func(yield func(int) bool) {
		for n := low; n <= high; n++ {
			if !yield(n) {
				return
			}
		}
	}
}
