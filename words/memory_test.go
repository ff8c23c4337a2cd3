package words

import (
	"testing"
	"unsafe"
)

// shared reports whether a byte of part lies in the memory of s.
func shared(s, part string) bool {
	if s == "" || part == "" {
		return false
	}
	from, at := uintptr(unsafe.Pointer(unsafe.StringData(s))), uintptr(unsafe.Pointer(unsafe.StringData(part)))
	return at < from+uintptr(len(s)) && from < at+uintptr(len(part))
}

// R3: a short result does not keep a long argument.
func TestResultsAreNewMemory(t *testing.T) {
	quotation := string([]byte(`"Trumpet"`))
	if text, _ := Unquote(quotation); shared(quotation, text) {
		t.Error("Unquote returned a part of its argument")
	}
	line := string([]byte(`stop "Trumpet 8" "a ""b"""`))
	l, _ := Split(line)
	for _, f := range l {
		if shared(line, f.S) {
			t.Errorf("Split returned %q as a part of its argument", f.S)
		}
	}
	sheet := string([]byte("one\ntwo\n"))
	texts, _ := Lines(sheet)
	for _, s := range texts {
		if shared(sheet, s) {
			t.Errorf("Lines returned %q as a part of its argument", s)
		}
	}
	one := Field{S: string([]byte("bare"))}
	if joined, _ := Join([]Field{one}); shared(one.S, joined) {
		t.Error("Join returned its only field")
	}
}
