package scaling

import (
	"math"
	"math/rand/v2"
	"slices"
	"testing"

	"quintadena/api"
)

// changed returns the chapter's scale with changes.
func changed(changes ...func(s *api.SlScale)) api.SlScale {
	s := principal()
	for _, c := range changes {
		c(&s)
	}
	return s
}

func bends(l ...api.SlBend) func(s *api.SlScale) {
	return func(s *api.SlScale) { s.Bends = l }
}

func sizes(diameter, constant int64) func(s *api.SlScale) {
	return func(s *api.SlScale) { s.Diameter, s.Constant = diameter, constant }
}

func mouths(num, den int64) func(s *api.SlScale) {
	return func(s *api.SlScale) { s.MouthNum, s.MouthDen = num, den }
}

func cuts(num, den int64) func(s *api.SlScale) {
	return func(s *api.SlScale) { s.CutNum, s.CutDen = num, den }
}

// badScales are those for which Check is ErrArg.
func badScales() []api.SlScale {
	l := []api.SlScale{{}}
	for _, b := range []api.SlBend{{Note: -1, Half: 16}, {Note: 140, Half: 16}, {Note: 36, Half: 7}, {Note: 36, Half: 65}, {Note: 36}, {Note: 36, Half: -16}, {Note: math.MinInt, Half: 16}, {Note: math.MaxInt, Half: 16}, {Note: 36, Half: math.MinInt}, {Note: 36, Half: math.MaxInt}} {
		l = append(l, changed(bends(b)), changed(bends(api.SlBend{Note: 0, Half: 16}, b)), changed(bends(b, api.SlBend{Note: 139, Half: 16})))
	}
	a, b, c := api.SlBend{Note: 36, Half: 16}, api.SlBend{Note: 48, Half: 18}, api.SlBend{Note: 60, Half: 20}
	for _, x := range [][]api.SlBend{nil, {}, {a, a}, {b, a}, {a, c, b}, {a, b, b}, {b, a, c}, {c, b, a}, {a, a, b}} {
		l = append(l, changed(bends(x...)))
	}
	for _, x := range [][2]int64{{999, 0}, {500001, 0}, {0, 0}, {-155500, 0}, {math.MinInt64, 0}, {math.MaxInt64, 0}, {155500, -1}, {155500, 50001}, {155500, math.MinInt64}, {155500, math.MaxInt64}, {1000, 1000}, {50000, 50000}, {40000, 40001}, {999, 998}, {-5, -6}} {
		l = append(l, changed(sizes(x[0], x[1])))
	}
	for _, n := range []int64{0, 21, -1, math.MinInt64, math.MaxInt64} {
		l = append(l, changed(mouths(n, 20)), changed(mouths(1, n)), changed(mouths(n, n)), changed(cuts(n, 20)), changed(cuts(20, n)))
	}
	for _, x := range [][2]int64{{4, 4}, {20, 20}, {1, 1}, {5, 4}, {20, 1}} {
		l = append(l, changed(mouths(x[0], x[1])))
	}
	return l
}

// longScales are those for which Check is ErrLong, whatever else is wrong.
func longScales() []api.SlScale {
	rising := []api.SlBend{{Note: 0, Half: 8}, {Note: 1, Half: 8}, {Note: 2, Half: 8}, {Note: 3, Half: 8}}
	return []api.SlScale{
		changed(bends(rising...)),
		changed(bends(make([]api.SlBend, 4)...)),
		{Bends: make([]api.SlBend, 1000)},
		changed(bends(rising...), sizes(0, 0), mouths(0, 0), cuts(0, 0)),
	}
}

// P7.1: the limits of a scale.
func TestCheck(t *testing.T) {
	for _, s := range badScales() {
		if e := Check(s); e != api.ErrArg {
			t.Errorf("Check(%v) = %d", s, e)
		}
	}
	for _, s := range longScales() {
		if e := Check(s); e != api.ErrLong {
			t.Errorf("Check(%v) = %d", s, e)
		}
	}
	good := scales(rand.New(rand.NewPCG(7, 1)), 500)
	good = append(good, changed(mouths(19, 20), cuts(20, 1)), changed(mouths(1, 2), cuts(1, 20)), changed(cuts(20, 20)), changed(cuts(1, 1)), changed(sizes(500000, 50000)), changed(sizes(1000, 0)), changed(bends(api.SlBend{Note: 0, Half: 8}, api.SlBend{Note: 1, Half: 64}, api.SlBend{Note: 139, Half: 8})))
	for _, s := range good {
		if e := Check(s); e != api.OK {
			t.Errorf("Check(%v) = %d", s, e)
		}
	}
}

// P7.2: known diameters.
func TestKnownDiameters(t *testing.T) {
	two := withBends(155500, 1500, api.SlBend{Note: 36, Half: 16}, api.SlBend{Note: 52, Half: 8})
	// It halves three times up to the second bend, once up to the third one, and once again.
	three := withBends(400000, 0, api.SlBend{Note: 0, Half: 8}, api.SlBend{Note: 24, Half: 12}, api.SlBend{Note: 36, Half: 64})
	// It halves half a time up to the second bend, and as much up to the third one.
	broken := withBends(40004, 4, api.SlBend{Note: 60, Half: 8}, api.SlBend{Note: 64, Half: 16}, api.SlBend{Note: 72, Half: 24})
	for _, c := range []struct {
		s    api.SlScale
		note int
		want api.Iv
	}{
		{principal(), 36, api.Iv{Lo: 155500, Hi: 155500}},
		{principal(), 37, api.Iv{Lo: 148907, Hi: 148908}},
		{principal(), 44, api.Iv{Lo: 109955, Hi: 109956}},
		{principal(), 52, api.Iv{Lo: 77750, Hi: 77750}},
		{principal(), 68, api.Iv{Lo: 38875, Hi: 38875}},
		{principal(), 84, api.Iv{Lo: 19437, Hi: 19438}},
		{two, 36, api.Iv{Lo: 155500, Hi: 155500}},
		{two, 52, api.Iv{Lo: 78500, Hi: 78500}},
		{two, 60, api.Iv{Lo: 40000, Hi: 40000}},
		{two, 68, api.Iv{Lo: 20750, Hi: 20750}},
		{two, 139, api.Iv{Lo: 1541, Hi: 1542}},
		{three, 24, api.Iv{Lo: 50000, Hi: 50000}},
		{three, 36, api.Iv{Lo: 25000, Hi: 25000}},
		{three, 100, api.Iv{Lo: 12500, Hi: 12500}},
		{broken, 64, api.Iv{Lo: 28288, Hi: 28289}},
		{broken, 72, api.Iv{Lo: 20004, Hi: 20004}},
		{broken, 96, api.Iv{Lo: 10004, Hi: 10004}},
		{withBends(1000, 0, api.SlBend{Note: 0, Half: 8}), 139, api.Iv{Lo: 0, Hi: 1}},
		{withBends(50001, 50000, api.SlBend{Note: 138, Half: 8}), 139, api.Iv{Lo: 50000, Hi: 50001}},
		{withBends(1024, 0, api.SlBend{Note: 0, Half: 8}), 80, api.Iv{Lo: 1, Hi: 1}},
	} {
		if v, e := Diameter(c.s, c.note); v != c.want || e != api.OK {
			t.Errorf("Diameter(%v, %d) = %v, %d, want %v", c.s, c.note, v, e, c.want)
		}
	}
}

// lookAtDiameter compares Diameter with the reference (P7.2, P7.5).
func lookAtDiameter(t *testing.T, s api.SlScale, note int) {
	t.Helper()
	if v, e := Diameter(s, note); !isSpan(s, note, v) || e != api.OK {
		t.Errorf("Diameter(%v, %d) = %v, %d", s, note, v, e)
	}
}

// P7.2, P7.5: diameters of scales of all kinds contain the exact ones, and are no wider than they must be.
func TestDiameters(t *testing.T) {
	source := rand.New(rand.NewPCG(7, 2))
	for _, s := range scales(source, 150) {
		first := s.Bends[0].Note
		lookAtDiameter(t, s, first)
		lookAtDiameter(t, s, anyNote(source, s))
		// A bend counts from the note above it on.
		b := s.Bends[source.IntN(len(s.Bends))]
		for _, note := range []int{b.Note - 1, b.Note, b.Note + 1} {
			if note >= first && note <= 139 {
				lookAtDiameter(t, s, note)
			}
		}
	}
	for note := 36; note <= 139; note++ {
		lookAtDiameter(t, principal(), note)
	}
	s := withBends(500000, 50000, api.SlBend{Note: 0, Half: 64}, api.SlBend{Note: 1, Half: 63}, api.SlBend{Note: 2, Half: 61})
	lookAtDiameter(t, s, 138)
	lookAtDiameter(t, s, 139)
}

// P7.5: diameters that are whole after halvings that are not, and those that miss that by one.
func TestWholeDiameters(t *testing.T) {
	source := rand.New(rand.NewPCG(7, 3))
	for range 300 {
		half := 8 + 8*source.IntN(4)
		at := source.IntN(20)
		l := []api.SlBend{{Note: at, Half: half}, {Note: at + half/4, Half: 2 * half}}
		// A quarter of a halving up to the second bend, and what is missing from there.
		for times := 1; times <= 6; times++ {
			note := at + half/4 + 2*half*times - half/2
			if note > 139 {
				break
			}
			d := (1000>>times + 1 + source.Int64N(7000)) << times
			constant := source.Int64N(1000)
			want := api.Iv{Lo: constant + d>>times, Hi: constant + d>>times}
			if v := sure(Diameter(withBends(d+constant, constant, l...), note)); v != want {
				t.Errorf("%d over %d at %d, %v: %v, want %v", d, constant, note, l, v, want)
			}
			for _, c := range []struct {
				by   int64
				want api.Iv
			}{{1, api.Iv{Lo: want.Lo, Hi: want.Lo + 1}}, {-1, api.Iv{Lo: want.Lo - 1, Hi: want.Lo}}} {
				if v := sure(Diameter(withBends(d+constant+c.by, constant, l...), note)); v != c.want {
					t.Errorf("%d over %d at %d, %v: %v, want %v", d+c.by, constant, note, l, v, c.want)
				}
			}
		}
	}
}

// P7.5: diameters that are as near to whole numbers as there are.
func TestNearlyWhole(t *testing.T) {
	for half := 8; half <= 64; half += 3 {
		for _, note := range []int{1, half / 2, half - 1, min(2*half+1, 139)} {
			shrunk := math.Exp2(-float64(note) / float64(half))
			nearest := [2]int64{1000, 1000}
			off := [2]float64{1, 1}
			for d := int64(1000); d <= 500000; d++ {
				x := float64(d) * shrunk
				below := x - math.Floor(x)
				for i, o := range []float64{below, 1 - below} {
					if o < off[i] {
						nearest[i], off[i] = d, o
					}
				}
			}
			for _, d := range nearest {
				lookAtDiameter(t, withBends(d, 0, api.SlBend{Note: 0, Half: half}), note)
			}
		}
	}
}

// P7.2: known mouths.
func TestKnownMouths(t *testing.T) {
	for _, c := range []struct {
		s          api.SlScale
		note       int
		width, cut api.Iv
	}{
		{principal(), 36, api.Iv{Lo: 122129, Hi: 122130}, api.Iv{Lo: 30532, Hi: 30533}},
		{changed(mouths(2, 9), cuts(1, 3)), 36, api.Iv{Lo: 108559, Hi: 108560}, api.Iv{Lo: 36186, Hi: 36187}},
		{changed(cuts(20, 1)), 36, api.Iv{Lo: 122129, Hi: 122130}, api.Iv{Lo: 2442580, Hi: 2442600}},
		{changed(sizes(500000, 0), mouths(19, 20), cuts(20, 1)), 36, api.Iv{Lo: 1492256, Hi: 1492258}, api.Iv{Lo: 29845120, Hi: 29845160}},
		{withBends(1000, 0, api.SlBend{Note: 0, Half: 8}), 139, api.Iv{Lo: 0, Hi: 1}, api.Iv{Lo: 0, Hi: 1}},
	} {
		if w, cut, e := Mouth(c.s, c.note); w != c.width || cut != c.cut || e != api.OK {
			t.Errorf("Mouth(%v, %d) = %v, %v, %d, want %v, %v", c.s, c.note, w, cut, e, c.width, c.cut)
		}
	}
}

// P7.2: the mouth has its width from the diameter, and its cut-up from that.
func TestMouths(t *testing.T) {
	source := rand.New(rand.NewPCG(7, 4))
	for _, s := range scales(source, 500) {
		note := anyNote(source, s)
		width, cut := mouth(s, sure(Diameter(s, note)))
		if w, c, e := Mouth(s, note); w != width || c != cut || e != api.OK {
			t.Errorf("Mouth(%v, %d) = %v, %v, %d, want %v, %v", s, note, w, c, e, width, cut)
		}
	}
}

// P7.2: tables of some notes, of one, and of all.
func TestTable(t *testing.T) {
	source := rand.New(rand.NewPCG(7, 5))
	for _, s := range scales(source, 30) {
		first := s.Bends[0].Note
		a, b := anyNote(source, s), anyNote(source, s)
		for _, c := range [][2]int{{min(a, b), max(a, b)}, {a, a}, {first, 139}, {first, first}, {139, 139}} {
			var want []api.Iv
			for note := c[0]; note <= c[1]; note++ {
				want = append(want, sure(Diameter(s, note)))
			}
			if l, e := Table(s, c[0], c[1]); !slices.Equal(l, want) || e != api.OK {
				t.Errorf("Table(%v, %d, %d) = %v, %d, want %v", s, c[0], c[1], l, e, want)
			}
		}
	}
}

// P7.2: notes that a table can't have.
func TestBadTables(t *testing.T) {
	for _, c := range [][2]int{{35, 40}, {36, 140}, {35, 140}, {53, 51}, {139, 36}, {37, 36}, {140, 140}, {35, 35}, {0, 10}, {-1, 139}, {140, 36}, {36, 35}, {math.MinInt, math.MaxInt}, {math.MaxInt, math.MinInt}, {math.MinInt, 40}, {40, math.MaxInt}} {
		if l, e := Table(principal(), c[0], c[1]); len(l) != 0 || e != api.ErrArg {
			t.Errorf("Table(%d, %d) = %v, %d", c[0], c[1], l, e)
		}
	}
}
