package words

import (
	"strings"

	"quintadena/api"
)

var noteNames = [12]string{"c", "c#", "d", "d#", "e", "f", "f#", "g", "g#", "a", "a#", "b"}

// letterSemitones is how far the letters from a to g are above the c of their octave.
var letterSemitones = [7]int{9, 11, 0, 2, 4, 5, 7}

// Note returns the text of the note n.
func Note(n int) (string, api.Errno) {
	if !note(n) {
		return "", api.ErrRange
	}
	return noteNames[n%12] + Digits(int64(n/12-1)), api.OK
}

// ParseNote returns the note that the spelling s denotes.
func ParseNote(s string) (int, api.Errno) {
	if s == "" || s[0] < 'a' || s[0] > 'g' {
		return 0, api.ErrForm
	}
	sign, rest := signOf(s[1:])
	octave, e := Int(rest, -1, 9)
	if e != api.OK {
		return 0, api.ErrForm
	}
	n := 12*(int(octave)+1) + letterSemitones[s[0]-'a'] + sign
	if !note(n) {
		return 0, api.ErrRange
	}
	return n, api.OK
}

// signOf returns by how many semitones a # or b at the beginning of s moves a letter, and what is behind it.
func signOf(s string) (int, string) {
	if rest, ok := strings.CutPrefix(s, "#"); ok {
		return 1, rest
	}
	if rest, ok := strings.CutPrefix(s, "b"); ok {
		return -1, rest
	}
	return 0, s
}

func note(n int) bool {
	return n >= 0 && n <= api.MaxKey
}
