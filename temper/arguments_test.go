package temper

import (
	"math"
	"math/rand/v2"
	"slices"
	"strings"
	"testing"
	"unsafe"

	"quintadena/api"
)

// anyNumber returns numbers of all sizes, near the limits, and beyond.
func anyNumber(source *rand.Rand) int {
	l := []int{0, 1, -1, 2, 3, 4, 11, 12, 24, 25, -24, 48, 120, 1200000, 1200001, math.MaxInt, math.MinInt}
	if source.IntN(3) > 0 {
		return l[source.IntN(len(l))]
	}
	return int(source.Uint64() >> source.IntN(64))
}

// P5.9, R1, R2: any arguments are accepted; with an error, all other results are zero.
func TestAnyArguments(t *testing.T) {
	source := rand.New(rand.NewPCG(5, 14))
	allowed := []api.Errno{api.ErrArg, api.ErrForm, api.ErrRange}
	for range 1000 {
		x := anyTemper(source)
		for range source.IntN(3) {
			x.Parts[source.IntN(12)] = api.CommaPart{Num: anyNumber(source), Den: anyNumber(source)}
		}
		if source.IntN(4) == 0 {
			x.Wolf = anyNumber(source)
		}
		if e := Check(x); e != api.OK && !slices.Contains(allowed, e) {
			t.Errorf("Check(%v) = %d", x, e)
		}
		for name, call := range calls(x, anyNumber(source)) {
			if zero, e := call(); e != api.OK && (!zero || !slices.Contains(allowed, e)) {
				t.Errorf("%s with %v: %v, %d", name, x, zero, e)
			}
		}
	}
	for range 1000 {
		l := make([]byte, source.IntN(220))
		for i := range l {
			l[i] = byte(source.IntN(256))
		}
		if x, e := Parse(string(l)); x != (api.Temper{}) || e != api.ErrForm && e != api.ErrLong {
			t.Errorf("Parse(%q) = %v, %d", l, x, e)
		}
		if x, e := Standard(string(l)); x != (api.Temper{}) || e != api.ErrNone {
			t.Errorf("Standard(%q) = %v, %d", l, x, e)
		}
	}
}

// again reports whether a function returns the same after its first result was overwritten.
func again[T comparable](call func(api.Temper) ([]T, api.Errno), x api.Temper, other T) bool {
	first := sure(call(x))
	want := slices.Clone(first)
	second := sure(call(x))
	for i := range first[:cap(first)] {
		first[:cap(first)][i] = other
	}
	return slices.Equal(second, want) && slices.Equal(sure(call(x)), want)
}

// P5.9, R3: results are new memory.
func TestNewMemory(t *testing.T) {
	x := sure(Standard("werckmeister"))
	wolves := func(x api.Temper) ([]int, api.Errno) { return Wolves(x, 0) }
	for name, same := range map[string]bool{
		"Fifths": again(Fifths, x, api.Ratio{}),
		"Notes":  again(Notes, x, api.Ratio{}),
		"Cents":  again(Cents, x, -1),
		"Off":    again(Off, x, -1),
		"Keys":   again(Keys, x, -1),
		"Wolves": again(wolves, x, -1),
	} {
		if !same {
			t.Errorf("%s returns memory that is not new", name)
		}
	}
}

// shared reports whether a byte of part lies in the memory of s.
func shared(s, part string) bool {
	from, at := uintptr(unsafe.Pointer(unsafe.StringData(s))), uintptr(unsafe.Pointer(unsafe.StringData(part)))
	return at < from+uintptr(len(s)) && from < at+uintptr(len(part))
}

// P5.9, R3: names are new memory.
func TestNamesAreNewMemory(t *testing.T) {
	name := strings.Clone("young")
	if x := sure(Standard(name)); shared(name, x.Name) {
		t.Error("Standard returned its argument")
	}
	x := quarter()
	x.Name = strings.Clone("quarter")
	if y := sure(Turn(x, 5)); shared(x.Name, y.Name) {
		t.Error("Turn returned the name of its argument")
	}
	text := sure(Text(x))
	if shared(text, x.Name) {
		t.Error("Text returned the name of its argument")
	}
	if y := sure(Parse(text)); shared(text, y.Name) {
		t.Error("Parse returned a part of its argument")
	}
}
