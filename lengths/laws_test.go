package lengths

import (
	"math/rand/v2"
	"testing"

	"quintadena/api"
)

// P8.5, T1: what is calculated contains what it is before anything is rounded.
func TestExactValues(t *testing.T) {
	source := rand.New(rand.NewPCG(8, 10))
	var counted tally
	for range 3000 {
		b, f, l, temp := anyBody(source), anyFrequency(source), anyLength(source), anyTemp(source)
		mouth, end, _ := Correction(b)
		if x, y := exactCorrections(b); !contains(mouth, x) || !contains(end, y) {
			t.Errorf("Correction(%v) = %v, %v does not contain %v, %v", b, mouth, end, x, y)
		}
		v, e := Length(b, f, temp)
		if x := exactLength(b, member(source, f), temp); e == api.OK && !contains(v, x) {
			t.Errorf("Length(%v, %v, %d) = %v does not contain %v", b, f, temp, v, x)
		}
		counted.add(e)
		v, e = Pitch(b, l, temp)
		if x := exactPitch(b, member(source, l), temp); e == api.OK && !contains(v, x) {
			t.Errorf("Pitch(%v, %v, %d) = %v does not contain %v", b, l, temp, v, x)
		}
	}
	counted.check(t, 500)
}

// inside reports whether all members of a are members of b.
func inside(a, b api.Iv) bool {
	return b.Lo <= a.Lo && a.Hi <= b.Hi
}

// P8.5: the frequency of a length contains what the length is for, and the length for a frequency contains what has it.
func TestThereAndBack(t *testing.T) {
	source := rand.New(rand.NewPCG(8, 11))
	var lengths, pitches int
	for range 5000 {
		b, f, l, temp := anyBody(source), anyFrequency(source), anyLength(source), anyTemp(source)
		if v, e := Length(b, f, temp); e == api.OK {
			if back, e := Pitch(b, v, temp); e == api.OK {
				lengths++
				if !inside(f, back) {
					t.Errorf("%v at %d is %v long for %v, and has %v", b, temp, v, f, back)
				}
			}
		}
		if v, e := Pitch(b, l, temp); e == api.OK {
			if back, e := Length(b, v, temp); e == api.OK {
				pitches++
				if !inside(l, back) {
					t.Errorf("%v of %v at %d has %v, and is %v long for it", b, l, temp, v, back)
				}
			}
		}
	}
	if lengths < 500 || pitches < 500 {
		t.Errorf("only %d lengths and %d frequencies", lengths, pitches)
	}
}

// risen reports whether neither end of b is less than that of a.
func risen(a, b api.Iv) bool {
	return a.Lo <= b.Lo && a.Hi <= b.Hi
}

// P8.6: what is calculated at a greater temperature is not less.
func TestGreaterTemperature(t *testing.T) {
	source := rand.New(rand.NewPCG(8, 12))
	grown := 0
	for range 3000 {
		b, f, l := anyBody(source), anyFrequency(source), anyLength(source)
		cold := anyTemp(source)
		warm := min(50000, cold+1+source.Int64N(5000))
		v, e := Length(b, f, cold)
		w, e2 := Length(b, f, warm)
		if e == api.OK && e2 == api.OK && !risen(v, w) {
			t.Errorf("%v for %v: %v at %d, %v at %d", b, f, v, cold, w, warm)
		}
		v, e = Pitch(b, l, cold)
		w, e2 = Pitch(b, l, warm)
		if e != api.OK || e2 != api.OK {
			continue
		}
		if !risen(v, w) {
			t.Errorf("%v of %v: %v at %d, %v at %d", b, l, v, cold, w, warm)
		}
		if v != w {
			grown++
		}
	}
	if grown < 500 {
		t.Errorf("only %d frequencies grow", grown)
	}
}

// P8.6: the length for a greater frequency is not greater.
func TestGreaterFrequency(t *testing.T) {
	source := rand.New(rand.NewPCG(8, 13))
	shrunk := 0
	for range 5000 {
		b, temp := anyBody(source), anyTemp(source)
		f, g := anyFrequency(source), anyFrequency(source)
		f, g = iv(min(f.Lo, g.Lo), min(f.Hi, g.Hi)), iv(max(f.Lo, g.Lo), max(f.Hi, g.Hi))
		v, e := Length(b, f, temp)
		w, e2 := Length(b, g, temp)
		if e != api.OK || e2 != api.OK {
			continue
		}
		if !risen(w, v) {
			t.Errorf("%v at %d: %v for %v, %v for %v", b, temp, v, f, w, g)
		}
		if v != w {
			shrunk++
		}
	}
	if shrunk < 300 {
		t.Errorf("only %d lengths shrink", shrunk)
	}
}

// P8.6: an interval within another one has a result within that of the other one.
func TestIntervalsWithin(t *testing.T) {
	source := rand.New(rand.NewPCG(8, 14))
	var counted tally
	for range 5000 {
		b, f, l, temp := anyBody(source), anyFrequency(source), anyLength(source), anyTemp(source)
		v, e := Length(b, f, temp)
		counted.add(e)
		if e == api.OK {
			part := anyIv(source, f.Lo, f.Hi)
			if w, e := Length(b, part, temp); e != api.OK || !inside(w, v) {
				t.Errorf("%v at %d: %v for %v, %v, %d for %v", b, temp, v, f, w, e, part)
			}
		}
		if v, e = Pitch(b, l, temp); e == api.OK {
			part := anyIv(source, l.Lo, l.Hi)
			if w, e := Pitch(b, part, temp); e != api.OK || !inside(w, v) {
				t.Errorf("%v at %d: %v of %v, %v, %d of %v", b, temp, v, l, w, e, part)
			}
		}
	}
	counted.check(t, 500)
}
