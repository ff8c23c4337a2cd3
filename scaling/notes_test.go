package scaling

import (
	"math/rand/v2"
	"testing"

	"quintadena/api"
)

// P7.3: known notes.
func TestKnownHalved(t *testing.T) {
	for _, c := range []struct {
		s          api.SlScale
		note, want int
		e          api.Errno
	}{
		{principal(), 36, 52, api.OK},
		{principal(), 52, 68, api.OK},
		// 38875 is odd, and what halves it surely is a note higher; so are all diameters that are not whole.
		{principal(), 68, 85, api.OK},
		{principal(), 37, 54, api.OK},
		{changed(sizes(155501, 0)), 36, 53, api.OK},
		{principal(), 122, 139, api.OK},
		{principal(), 123, 0, api.ErrNone},
		{principal(), 139, 0, api.ErrNone},
		// What does not shrink is more than the half.
		{changed(sizes(60000, 50000)), 36, 0, api.ErrNone},
		{changed(sizes(100000, 50000)), 36, 0, api.ErrNone},
		{changed(sizes(100002, 50000)), 36, 0, api.ErrNone},
		// 52000 must shrink to 1000, and 16 times the logarithm of 52 is 91.2.
		{changed(sizes(102000, 50000)), 36, 128, api.OK},
		{withBends(1024, 0, api.SlBend{Note: 0, Half: 8}), 64, 72, api.OK},
		{withBends(1024, 0, api.SlBend{Note: 0, Half: 8}), 72, 80, api.OK},
		{withBends(1024, 0, api.SlBend{Note: 0, Half: 8}), 80, 0, api.ErrNone},
		{withBends(80000, 0, api.SlBend{Note: 138, Half: 8}, api.SlBend{Note: 139, Half: 8}), 138, 0, api.ErrNone},
	} {
		if n, e := Halved(c.s, c.note); n != c.want || e != c.e {
			t.Errorf("Halved(%v, %d) = %d, %d, want %d, %d", c.s, c.note, n, e, c.want, c.e)
		}
	}
}

// halfOf returns what Halved must return.
func halfOf(s api.SlScale, note int) (int, api.Errno) {
	whole := sure(Diameter(s, note))
	for n := note + 1; n <= 139; n++ {
		if 2*sure(Diameter(s, n)).Hi <= whole.Lo {
			return n, api.OK
		}
	}
	return 0, api.ErrNone
}

// P7.3, P7.6: the first note that is surely half, which is above the note.
func TestHalved(t *testing.T) {
	source := rand.New(rand.NewPCG(7, 6))
	found := 0
	for _, s := range scales(source, 150) {
		note := anyNote(source, s)
		want, e := halfOf(s, note)
		got, gotE := Halved(s, note)
		if got != want || gotE != e {
			t.Errorf("Halved(%v, %d) = %d, %d, want %d, %d", s, note, got, gotE, want, e)
		}
		if e == api.OK {
			found++
		}
	}
	if found < 20 {
		t.Errorf("only %d notes have one that is half", found)
	}
}

// P7.4: known numbers of semitones.
func TestKnownWider(t *testing.T) {
	wide := changed(sizes(311000, 0))
	for _, c := range []struct {
		s, t       api.SlScale
		note, want int
		e          api.Errno
	}{
		{principal(), principal(), 52, 0, api.OK},
		{principal(), principal(), 36, 0, api.OK},
		// A diameter that is not whole is not surely as wide as itself.
		{principal(), principal(), 53, -1, api.OK},
		{principal(), principal(), 139, 0, api.ErrNone},
		{wide, principal(), 52, 16, api.OK},
		{principal(), wide, 52, -16, api.OK},
		{principal(), wide, 123, 0, api.ErrNone},
		{principal(), wide, 122, -17, api.OK},
		{principal(), wide, 139, 0, api.ErrNone},
		// The lowest note of t is narrower already.
		{wide, principal(), 37, 1, api.OK},
		{wide, principal(), 36, 0, api.OK},
		{wide, changed(bends(api.SlBend{Note: 0, Half: 16})), 36, 36, api.OK},
		{wide, changed(bends(api.SlBend{Note: 139, Half: 16})), 36, -103, api.OK},
		{wide, changed(bends(api.SlBend{Note: 139, Half: 16})), 52, -87, api.OK},
		{wide, changed(bends(api.SlBend{Note: 139, Half: 16})), 53, 0, api.ErrNone},
		{withBends(1000, 0, api.SlBend{Note: 0, Half: 8}), withBends(1000, 0, api.SlBend{Note: 0, Half: 8}), 139, 0, api.ErrNone},
	} {
		if k, e := Wider(c.s, c.t, c.note); k != c.want || e != c.e {
			t.Errorf("Wider(%v, %v, %d) = %d, %d, want %d, %d", c.s, c.t, c.note, k, e, c.want, c.e)
		}
	}
}

// widerBy returns what Wider must return.
func widerBy(s, other api.SlScale, note int) (int, api.Errno) {
	for k := 139; k >= -139; k-- {
		at := note - k
		if at >= other.Bends[0].Note && at <= 139 && sure(Diameter(s, note)).Lo >= sure(Diameter(other, at)).Hi {
			return k, api.OK
		}
	}
	return 0, api.ErrNone
}

// P7.4, P7.6: the greatest number of semitones.
func TestWider(t *testing.T) {
	source := rand.New(rand.NewPCG(7, 7))
	var below, above, none int
	for _, s := range scales(source, 150) {
		other := s
		switch source.IntN(3) {
		case 0:
			other = anyScale(source)
		case 1:
			other.Diameter = min(500000, other.Diameter+source.Int64N(100000))
		}
		note := anyNote(source, s)
		want, e := widerBy(s, other, note)
		got, gotE := Wider(s, other, note)
		if got != want || gotE != e {
			t.Errorf("Wider(%v, %v, %d) = %d, %d, want %d, %d", s, other, note, got, gotE, want, e)
		}
		switch {
		case e != api.OK:
			none++
		case want > 0:
			below++
		case want < 0:
			above++
		}
	}
	if below < 10 || above < 10 || none < 10 {
		t.Errorf("%d are wider, %d narrower, %d have none", below, above, none)
	}
}
