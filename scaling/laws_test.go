package scaling

import (
	"math/rand/v2"
	"slices"
	"testing"

	"quintadena/api"
)

// P7.5: the ends of a diameter are the same or one apart, also where the reference is slow.
func TestEnds(t *testing.T) {
	source := rand.New(rand.NewPCG(7, 8))
	for _, s := range scales(source, 100) {
		for i, v := range sure(Table(s, s.Bends[0].Note, 139)) {
			if v.Lo < s.Constant || v.Hi > s.Diameter || v.Hi != v.Lo && v.Hi != v.Lo+1 {
				t.Errorf("%v: the diameter at %d is %v", s, s.Bends[0].Note+i, v)
			}
		}
	}
}

// P7.6: diameters do not rise with the note.
func TestDiametersDoNotRise(t *testing.T) {
	source := rand.New(rand.NewPCG(7, 9))
	for _, s := range scales(source, 100) {
		l := sure(Table(s, s.Bends[0].Note, 139))
		for i := 1; i < len(l); i++ {
			if l[i].Lo > l[i-1].Lo || l[i].Hi > l[i-1].Hi {
				t.Errorf("%v: %v comes after %v", s, l[i], l[i-1])
			}
		}
	}
}

// P7.6: what Halved returns is above the note, and its pipe is half as wide.
func TestHalvedIsAbove(t *testing.T) {
	source := rand.New(rand.NewPCG(7, 10))
	for _, s := range scales(source, 60) {
		note := anyNote(source, s)
		n, e := Halved(s, note)
		if e == api.OK && (n <= note || 2*sure(Diameter(s, n)).Hi > sure(Diameter(s, note)).Lo) {
			t.Errorf("Halved(%v, %d) = %d", s, note, n)
		}
	}
}

// P7.6: s is as wide as t at what Wider returns, and not a semitone lower.
func TestWiderIsGreatest(t *testing.T) {
	source := rand.New(rand.NewPCG(7, 11))
	for _, s := range scales(source, 60) {
		other, note := anyScale(source), anyNote(source, s)
		k, e := Wider(s, other, note)
		if e != api.OK {
			continue
		}
		wide := sure(Diameter(s, note)).Lo
		if wide < sure(Diameter(other, note-k)).Hi {
			t.Errorf("Wider(%v, %v, %d) = %d, and s is narrower", s, other, note, k)
		}
		if d, e := Diameter(other, note-k-1); e == api.OK && wide >= d.Hi {
			t.Errorf("Wider(%v, %v, %d) = %d, and s is as wide a semitone lower", s, other, note, k)
		}
	}
}

// P7.7: a greater Half of the last bend makes no diameter less, and some greater.
func TestGreaterHalf(t *testing.T) {
	source := rand.New(rand.NewPCG(7, 12))
	grown := 0
	for _, s := range scales(source, 100) {
		last := len(s.Bends) - 1
		if s.Bends[last].Half == 64 {
			continue
		}
		greater := s
		greater.Bends = slices.Clone(s.Bends)
		greater.Bends[last].Half += 1 + source.IntN(64-s.Bends[last].Half)
		before, after := sure(Table(s, s.Bends[0].Note, 139)), sure(Table(greater, s.Bends[0].Note, 139))
		for i := range before {
			if after[i].Lo < before[i].Lo || after[i].Hi < before[i].Hi {
				t.Errorf("%v: at %d, %v is %v if the Half is %d", s, s.Bends[0].Note+i, before[i], after[i], greater.Bends[last].Half)
			}
			if after[i] != before[i] {
				grown++
			}
		}
	}
	if grown == 0 {
		t.Error("no diameter grows")
	}
}
