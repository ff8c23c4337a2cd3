package lengths

import (
	"math"
	"math/rand/v2"
	"testing"

	"quintadena/api"
	"quintadena/scaling"
)

// changed returns a pipe with changes.
func changed(b api.BdBody, changes ...func(b *api.BdBody)) api.BdBody {
	for _, c := range changes {
		c(&b)
	}
	return b
}

func kindIs(k int) func(b *api.BdBody) {
	return func(b *api.BdBody) { b.Kind = k }
}

func sizes(bottom, top int64) func(b *api.BdBody) {
	return func(b *api.BdBody) { b.Bottom, b.Top = bottom, top }
}

func mouth(n int64) func(b *api.BdBody) {
	return func(b *api.BdBody) { b.Mouth = n }
}

func cut(n int64) func(b *api.BdBody) {
	return func(b *api.BdBody) { b.Cut = n }
}

// badBodies are those for which Check is ErrArg.
func badBodies() []api.BdBody {
	l := []api.BdBody{{}, {Kind: api.BdOpen}}
	for _, k := range []int{0, -1, 4, 5, math.MinInt, math.MaxInt} {
		l = append(l, changed(open(), kindIs(k)), changed(cone(20000), kindIs(k)))
	}
	for _, k := range []int{api.BdOpen, api.BdStopped} {
		for _, x := range [][2]int64{{50000, 49999}, {50000, 50001}, {49999, 50000}, {50000, 0}, {0, 0}, {999, 999}, {500001, 500001}, {-50000, -50000}, {math.MinInt64, math.MinInt64}, {math.MaxInt64, math.MaxInt64}, {1 << 62, 1 << 62}} {
			l = append(l, changed(open(), kindIs(k), sizes(x[0], x[1]), mouth(1), cut(1)))
		}
	}
	for _, x := range [][2]int64{{50000, 50000}, {50000, 50001}, {50000, 999}, {50000, 0}, {50000, -1}, {50000, math.MinInt64}, {50000, math.MaxInt64}, {1000, 1000}, {1000, 999}, {500001, 1000}, {500001, 500000}, {math.MaxInt64, 1000}, {math.MinInt64, 1000}, {math.MinInt64, math.MaxInt64}, {math.MinInt64, math.MinInt64}} {
		l = append(l, changed(cone(1000), sizes(x[0], x[1]), mouth(1), cut(1)))
	}
	for _, b := range []api.BdBody{open(), stopped(), cone(20000)} {
		for _, n := range []int64{0, -1, 200001, math.MinInt64, math.MaxInt64} {
			l = append(l, changed(b, mouth(n)), changed(b, cut(n)), changed(b, mouth(n), cut(n)))
		}
	}
	// The mouth is limited by Bottom, not by Top.
	return append(l, changed(open(), sizes(1000, 1000), mouth(4001), cut(1)), changed(open(), sizes(1000, 1000), mouth(1), cut(4001)))
}

// P8.1: the limits of a pipe.
func TestCheck(t *testing.T) {
	for _, b := range badBodies() {
		if e := Check(b); e != api.ErrArg {
			t.Errorf("Check(%v) = %d", b, e)
		}
	}
	good := []api.BdBody{open(), stopped(), cone(1000), cone(49999), changed(cone(1000), sizes(1001, 1000), mouth(1), cut(1)), changed(cone(1000), sizes(500000, 499999)), changed(cone(1000), sizes(500000, 1000))}
	for _, b := range []api.BdBody{open(), stopped(), cone(20000)} {
		good = append(good, changed(b, mouth(200000)), changed(b, cut(200000)), changed(b, mouth(1)), changed(b, cut(1)), changed(b, mouth(200000), cut(200000)), changed(b, mouth(1), cut(1)))
	}
	for _, k := range []int{api.BdOpen, api.BdStopped} {
		good = append(good, changed(open(), kindIs(k), sizes(1000, 1000), mouth(4000), cut(4000)), changed(open(), kindIs(k), sizes(500000, 500000), mouth(2000000), cut(2000000)))
	}
	source := rand.New(rand.NewPCG(8, 7))
	for range 1000 {
		good = append(good, anyBody(source))
	}
	for _, b := range good {
		if e := Check(b); e != api.OK {
			t.Errorf("Check(%v) = %d", b, e)
		}
	}
}

// principal is a scale that has 155500 micrometres at the note 36, and at the note 84 no whole number of them.
func principal() api.SlScale {
	return api.SlScale{Diameter: 155500, Bends: []api.SlBend{{Note: 36, Half: 16}}, MouthNum: 1, MouthDen: 4, CutNum: 1, CutDen: 4}
}

// tall is that scale with a cut-up that is as high as asked for, as a part of the width of the mouth.
func tall(num, den int64) api.SlScale {
	s := principal()
	s.CutNum, s.CutDen = num, den
	return s
}

// first is that scale with a diameter at the note 36.
func first(diameter int64) api.SlScale {
	s := principal()
	s.Diameter = diameter
	return s
}

// P8.4: known pipes, and those that are not valid.
func TestKnownBodies(t *testing.T) {
	for _, c := range []struct {
		s          api.SlScale
		note, kind int
		want       api.BdBody
		e          api.Errno
	}{
		{principal(), 36, api.BdOpen, api.BdBody{Kind: api.BdOpen, Bottom: 155500, Top: 155500, Mouth: 122129, Cut: 30532}, api.OK},
		{principal(), 36, api.BdStopped, api.BdBody{Kind: api.BdStopped, Bottom: 155500, Top: 155500, Mouth: 122129, Cut: 30532}, api.OK},
		{principal(), 36, api.BdCone, api.BdBody{Kind: api.BdCone, Bottom: 155500, Top: 103666, Mouth: 122129, Cut: 30532}, api.OK},
		// The diameter is from 19437 to 19438.
		{principal(), 84, api.BdOpen, api.BdBody{Kind: api.BdOpen, Bottom: 19437, Top: 19437, Mouth: 15265, Cut: 3816}, api.OK},
		{principal(), 84, api.BdCone, api.BdBody{Kind: api.BdCone, Bottom: 19437, Top: 12958, Mouth: 15265, Cut: 3816}, api.OK},
		{first(1000), 36, api.BdOpen, api.BdBody{Kind: api.BdOpen, Bottom: 1000, Top: 1000, Mouth: 785, Cut: 196}, api.OK},
		{first(1000), 37, api.BdOpen, api.BdBody{}, api.ErrRange},
		{first(1000), 36, api.BdCone, api.BdBody{}, api.ErrRange},
		// Two thirds of 1499 are 999, of 1500 1000.
		{first(1499), 36, api.BdCone, api.BdBody{}, api.ErrRange},
		{first(1500), 36, api.BdCone, api.BdBody{Kind: api.BdCone, Bottom: 1500, Top: 1000, Mouth: 1178, Cut: 294}, api.OK},
		{first(500000), 36, api.BdOpen, api.BdBody{Kind: api.BdOpen, Bottom: 500000, Top: 500000, Mouth: 392699, Cut: 98174}, api.OK},
		{principal(), 139, api.BdOpen, api.BdBody{Kind: api.BdOpen, Bottom: 1794, Top: 1794, Mouth: 1409, Cut: 352}, api.OK},
		// Four times 155500 are 622000; 5 widths of 122129 are less, and 51 tenths of them are more.
		{tall(5, 1), 36, api.BdOpen, api.BdBody{Kind: api.BdOpen, Bottom: 155500, Top: 155500, Mouth: 122129, Cut: 610645}, api.OK},
		{tall(20, 1), 36, api.BdOpen, api.BdBody{}, api.ErrRange},
		{tall(11, 2), 36, api.BdStopped, api.BdBody{}, api.ErrRange},
	} {
		if b, e := Body(c.s, c.note, c.kind); b != c.want || e != c.e {
			t.Errorf("Body(%v, %d, %d) = %v, %d, want %v, %d", c.s, c.note, c.kind, b, e, c.want, c.e)
		}
	}
}

// anyScale returns a valid scale.
func anyScale(source *rand.Rand) api.SlScale {
	s := api.SlScale{
		Diameter: between(source, 1000, 500000),
		Bends:    []api.SlBend{{Note: int(between(source, 0, 80)), Half: int(between(source, 8, 64))}},
		MouthDen: between(source, 2, 20),
		CutNum:   between(source, 1, 20),
		CutDen:   between(source, 1, 20),
	}
	s.MouthNum = between(source, 1, s.MouthDen-1)
	s.Constant = source.Int64N(min(50001, s.Diameter))
	if source.IntN(2) == 0 {
		s.Bends = append(s.Bends, api.SlBend{Note: s.Bends[0].Note + 1 + source.IntN(30), Half: int(between(source, 8, 64))})
	}
	return s
}

// bodyOf returns what Body must return for a note that the scale has, and a kind.
func bodyOf(s api.SlScale, note, kind int) (api.BdBody, api.Errno) {
	width, height, _ := scaling.Mouth(s, note)
	bottom := sure(scaling.Diameter(s, note)).Lo
	b := api.BdBody{Kind: kind, Bottom: bottom, Top: bottom, Mouth: width.Lo, Cut: height.Lo}
	if kind == api.BdCone {
		b.Top = (bottom - bottom%3) / 3 * 2
		if bottom%3 == 2 {
			b.Top++
		}
	}
	if min(b.Bottom, b.Top) < 1000 || min(b.Mouth, b.Cut) < 1 || max(b.Mouth, b.Cut) > 4*bottom {
		return api.BdBody{}, api.ErrRange
	}
	return b, api.OK
}

// P8.4: pipes as they are defined, which are valid.
func TestBodies(t *testing.T) {
	source := rand.New(rand.NewPCG(8, 8))
	var counted tally
	for range 3000 {
		s := anyScale(source)
		note, kind := int(between(source, int64(s.Bends[0].Note), 139)), 1+source.IntN(3)
		want, e := bodyOf(s, note, kind)
		b, gotE := Body(s, note, kind)
		if b != want || gotE != e {
			t.Errorf("Body(%v, %d, %d) = %v, %d, want %v, %d", s, note, kind, b, gotE, want, e)
		}
		if gotE == api.OK && Check(b) != api.OK {
			t.Errorf("Body(%v, %d, %d) = %v, which is not valid", s, note, kind, b)
		}
		counted.add(e)
	}
	counted.check(t, 500)
}
