package words

import (
	"iter"
	"strings"

	"quintadena/api"
)

// Field is a field of a line.
type Field struct {
	Quoted bool
	S      string
}

// Quote returns the quotation of the string s.
func Quote(s string) (string, api.Errno) {
	if !Text(s) {
		return "", api.ErrArg
	}
	return `"` + strings.ReplaceAll(s, `"`, `""`) + `"`, api.OK
}

// Unquote returns the string whose quotation is s.
func Unquote(s string) (string, api.Errno) {
	if len(s) < 2 {
		return "", api.ErrForm
	}
	text := strings.ReplaceAll(s[1:len(s)-1], `""`, `"`)
	if q, e := Quote(text); e != api.OK || q != s {
		return "", api.ErrForm
	}
	// ReplaceAll may return a part of s.
	return strings.Clone(text), api.OK
}

// Split returns the fields of a line.
func Split(line string) ([]Field, api.Errno) {
	if len(line) > api.MaxLine {
		return nil, api.ErrLong
	}
	var l []Field
	for f, ok := range fields(line) {
		if !ok {
			return nil, api.ErrForm
		}
		l = append(l, f)
	}
	// A line with too many fields is only known to have the required form at its end.
	if len(l) > api.MaxFields {
		return nil, api.ErrLong
	}
	return l, api.OK
}

// Join returns the line of the fields l.
func Join(l []Field) (string, api.Errno) {
	if len(l) > api.MaxFields {
		return "", api.ErrLong
	}
	var line strings.Builder
	for i, f := range l {
		s, e := writeField(f)
		if e != api.OK {
			return "", e
		}
		if i > 0 {
			line.WriteByte(' ')
		}
		line.WriteString(s)
	}
	if line.Len() > api.MaxLine {
		return "", api.ErrLong
	}
	return line.String(), api.OK
}

// Lines returns the strings that the bytes 10 of s end.
func Lines(s string) ([]string, api.Errno) {
	if len(s) > api.MaxSheet {
		return nil, api.ErrLong
	}
	if s != "" && s[len(s)-1] != '\n' {
		return nil, api.ErrForm
	}
	if strings.Count(s, "\n") > api.MaxLines {
		return nil, api.ErrLong
	}
	var l []string
	for s != "" {
		line, rest, _ := strings.Cut(s, "\n")
		// A part of s would share its memory.
		l = append(l, strings.Clone(line))
		s = rest
	}
	return l, api.OK
}

// fields yields the fields of a line, each with true; what is no written field ends them with false.
func fields(line string) iter.Seq2[Field, bool] {
	return func(yield func(Field, bool) bool) {
		rest, more := line, line != ""
		for more {
			var written string
			written, rest, more = cutField(rest)
			f, e := readField(written)
			if !yield(f, e == api.OK) || e != api.OK {
				return
			}
		}
	}
}

// cutField cuts s around the first blank that no quotation contains; found is false if there is none.
func cutField(s string) (before, after string, found bool) {
	quoted := false
	// A byte 34 inside a quotation is written twice, so what follows both is inside again.
	ends := func(c byte) bool {
		if c == '"' {
			quoted = !quoted
		}
		return c == ' ' && !quoted
	}
	for i := range len(s) {
		if ends(s[i]) {
			return s[:i], s[i+1:], true
		}
	}
	return s, "", false
}

// readField returns the field that is written as s.
func readField(s string) (Field, api.Errno) {
	if bare(s) {
		return Field{S: strings.Clone(s)}, api.OK
	}
	text, e := Unquote(s)
	if e != api.OK {
		return Field{}, e
	}
	return Field{Quoted: true, S: text}, api.OK
}

// writeField returns how f is written.
func writeField(f Field) (string, api.Errno) {
	if f.Quoted {
		return Quote(f.S)
	}
	if !bare(f.S) {
		return "", api.ErrArg
	}
	return f.S, api.OK
}

// bare reports whether s is a field that is written without a quotation.
func bare(s string) bool {
	return s != "" && len(s) <= api.MaxText && within(s, '!', '~') && !strings.Contains(s, `"`)
}
