package sheets

import (
	"math"
	"math/rand/v2"
	"slices"
	"testing"

	"quintadena/api"
)

// P9.3: known areas, also at the limits.
func TestKnownMetal(t *testing.T) {
	for _, c := range []struct {
		l    []api.ShCut
		want int64
	}{
		{nil, 0},
		{[]api.ShCut{}, 0},
		{cuts(2, 3, 4, 5), 26},
		{cuts(1, 1), 1},
		{cuts(20000000, 20000000), 400000000000000},
		{cuts(1, 20000000, 20000000, 1), 40000000},
		{slices.Repeat(cuts(20000000, 20000000), 200), 80000000000000000},
	} {
		if n, e := Metal(c.l); n != c.want || e != api.OK {
			t.Errorf("Metal of %d cuts = %d, %d, want %d", len(c.l), n, e, c.want)
		}
	}
}

// P9.3: areas as they are defined.
func TestMetal(t *testing.T) {
	source := rand.New(rand.NewPCG(9, 4))
	for range 500 {
		l := anyCuts(source, anyPlate(source), source.IntN(201))
		if n, e := Metal(l); whole(n).Cmp(areaOf(l, 0)) != 0 || e != api.OK {
			t.Errorf("Metal(%v) = %d, %d", l, n, e)
		}
	}
}

// P9.3: known weights, also at the limits.
func TestKnownWeights(t *testing.T) {
	for _, c := range []struct {
		area, thick, density int64
		want                 api.Iv
	}{
		{1000000000000, 1000, 11340, api.Iv{Lo: 11340000, Hi: 11340000}},
		{1, 1, 1, api.Iv{Lo: 0, Hi: 1}},
		{0, 1, 1, api.Iv{}},
		{0, 10000, 30000, api.Iv{}},
		{1000000000000, 1, 1, api.Iv{Lo: 1, Hi: 1}},
		{1000000000001, 1, 1, api.Iv{Lo: 1, Hi: 2}},
		{999999999999, 1, 1, api.Iv{Lo: 0, Hi: 1}},
		{100000000000000000, 10000, 30000, api.Iv{Lo: 30000000000000, Hi: 30000000000000}},
		{99999999999999999, 10000, 30000, api.Iv{Lo: 29999999999999, Hi: 30000000000000}},
		{100000000000000000, 1, 1, api.Iv{Lo: 100000, Hi: 100000}},
	} {
		if v, e := Weight(c.area, c.thick, c.density); v != c.want || e != api.OK {
			t.Errorf("Weight(%d, %d, %d) = %v, %d, want %v", c.area, c.thick, c.density, v, e, c.want)
		}
	}
}

// P9.3: weights as they are defined.
func TestWeights(t *testing.T) {
	source := rand.New(rand.NewPCG(9, 5))
	for range 5000 {
		area, thick, density := between(source, 0, 100000000000000000), between(source, 1, 10000), between(source, 1, 30000)
		if v, e := Weight(area, thick, density); v != weightOf(area, thick, density) || e != api.OK {
			t.Errorf("Weight(%d, %d, %d) = %v, %d", area, thick, density, v, e)
		}
	}
}

// P9.3: numbers that are not valid.
func TestBadWeights(t *testing.T) {
	look := func(area, thick, density int64) {
		t.Helper()
		if v, e := Weight(area, thick, density); v != (api.Iv{}) || e != api.ErrArg {
			t.Errorf("Weight(%d, %d, %d) = %v, %d", area, thick, density, v, e)
		}
	}
	for _, n := range []int64{-1, 100000000000000001, math.MinInt64, math.MaxInt64} {
		look(n, 1, 1)
		look(n, 10000, 30000)
	}
	for _, n := range []int64{0, -1, 10001, math.MinInt64, math.MaxInt64} {
		look(0, n, 1)
		look(100000000000000000, n, 30000)
	}
	for _, n := range []int64{0, -1, 30001, math.MinInt64, math.MaxInt64} {
		look(0, 1, n)
		look(100000000000000000, 10000, n)
	}
}

// P9.4: known judgements of cuts that are valid.
func TestKnownJudgements(t *testing.T) {
	two := cuts(2, 2, 3, 4)
	for _, c := range []struct {
		kerf int64
		l    []api.ShCut
		at   []api.ShSpot
		e    api.Errno
	}{
		{0, nil, nil, api.OK},
		{0, nil, []api.ShSpot{}, api.OK},
		{0, nil, []api.ShSpot{{}}, api.ErrArg},
		{0, two, nil, api.ErrArg},
		{0, two, []api.ShSpot{{}}, api.ErrArg},
		{0, two, []api.ShSpot{{}, {X: 2}, {X: 5}}, api.ErrArg},
		// The cuts touch, have the Kerf between them, or a micrometre less.
		{0, two, []api.ShSpot{{}, {X: 2}}, api.OK},
		{0, two, []api.ShSpot{{}, {X: 1}}, api.ErrTwice},
		{0, two, []api.ShSpot{{}, {Y: 2}}, api.OK},
		{0, two, []api.ShSpot{{}, {Y: 1}}, api.ErrTwice},
		{0, two, []api.ShSpot{{X: 3}, {}}, api.OK},
		{0, two, []api.ShSpot{{X: 2}, {}}, api.ErrTwice},
		{0, two, []api.ShSpot{{Y: 4}, {}}, api.OK},
		{0, two, []api.ShSpot{{Y: 3}, {}}, api.ErrTwice},
		{3, two, []api.ShSpot{{}, {X: 5}}, api.OK},
		{3, two, []api.ShSpot{{}, {X: 4}}, api.ErrTwice},
		{3, two, []api.ShSpot{{}, {Y: 5}}, api.OK},
		{3, two, []api.ShSpot{{}, {Y: 4}}, api.ErrTwice},
		{3, two, []api.ShSpot{{X: 6}, {}}, api.OK},
		{3, two, []api.ShSpot{{X: 5}, {}}, api.ErrTwice},
		{3, two, []api.ShSpot{{Y: 7}, {}}, api.OK},
		{3, two, []api.ShSpot{{Y: 6}, {}}, api.ErrTwice},
		// Enough to the side or above is enough.
		{3, two, []api.ShSpot{{}, {X: 5, Y: 1}}, api.OK},
		{3, two, []api.ShSpot{{}, {X: 1, Y: 5}}, api.OK},
		{3, two, []api.ShSpot{{}, {X: 4, Y: 4}}, api.ErrTwice},
		{3, two, []api.ShSpot{{X: 5, Y: 6}, {}}, api.ErrTwice},
		{0, two, []api.ShSpot{{X: 1, Y: 1}, {}}, api.ErrTwice},
		{0, two, []api.ShSpot{{}, {}}, api.ErrTwice},
		{50000, two, []api.ShSpot{{}, {X: 7, Y: 6}}, api.ErrTwice},
		// Cuts on different plates have nothing between them; shelves are not looked at.
		{50000, two, []api.ShSpot{{}, {Plate: 1}}, api.OK},
		{0, two, []api.ShSpot{{Plate: 1, Shelf: 1}, {}}, api.OK},
		{0, two, []api.ShSpot{{Plate: 1}, {Plate: 1}}, api.ErrTwice},
		{0, two, []api.ShSpot{{}, {Shelf: 1}}, api.ErrTwice},
		{0, two, []api.ShSpot{{Shelf: 1}, {X: 5, Y: 5}}, api.OK},
		// The Kerf need not be on the plate.
		{50000, two[:1], []api.ShSpot{{X: 8, Y: 8}}, api.OK},
		{50000, two[1:], []api.ShSpot{{X: 7, Y: 6}}, api.OK},
		{0, cuts(10, 10), []api.ShSpot{{}}, api.OK},
		{0, cuts(11, 1), []api.ShSpot{{}}, api.ErrArg},
		{0, cuts(1, 11), []api.ShSpot{{}}, api.ErrArg},
	} {
		if e := Judge(api.ShPlate{W: 10, H: 10, Kerf: c.kerf}, c.l, c.at); e != c.e {
			t.Errorf("Judge(%d, %v, %v) = %d, want %d", c.kerf, c.l, c.at, e, c.e)
		}
	}
}

// P9.4: spots that are not valid, also where two others overlap.
func TestBadSpots(t *testing.T) {
	p, l := api.ShPlate{W: 9, H: 8}, cuts(2, 2, 3, 4, 1, 1)
	var bad []api.ShSpot
	for _, n := range []int{-1, 3, math.MinInt, math.MaxInt} {
		bad = append(bad, api.ShSpot{Plate: n}, api.ShSpot{Shelf: n}, api.ShSpot{Plate: n, Shelf: n})
	}
	for _, n := range []int64{-1, 9, math.MinInt64, math.MaxInt64, math.MaxInt64 - 1} {
		bad = append(bad, api.ShSpot{Plate: 2, X: n}, api.ShSpot{Plate: 2, Y: n}, api.ShSpot{Plate: 2, X: n, Y: n})
	}
	for i := range l {
		for _, s := range append(bad, api.ShSpot{Plate: 2, X: 10 - l[i].W}, api.ShSpot{Plate: 2, Y: 9 - l[i].H}) {
			for _, at := range [][]api.ShSpot{{{}, {X: 3}, {X: 6}}, {{}, {}, {}}} {
				at[i] = s
				if e := Judge(p, l, at); e != api.ErrArg {
					t.Errorf("Judge(%v) = %d", at, e)
				}
			}
		}
		at := []api.ShSpot{{}, {X: 3}, {X: 6}}
		at[i] = api.ShSpot{Plate: 2, Shelf: 2, X: 9 - l[i].W, Y: 8 - l[i].H}
		if e := Judge(p, l, at); e != api.OK {
			t.Errorf("Judge(%v) = %d", at, e)
		}
	}
}

// P9.4: overlaps on small plates, square by square.
func TestJudge(t *testing.T) {
	source := rand.New(rand.NewPCG(9, 6))
	var good, bad int
	for range 10000 {
		p := api.ShPlate{W: 4 + source.Int64N(20), H: 4 + source.Int64N(20), Kerf: source.Int64N(4)}
		l := anyCuts(source, api.ShPlate{W: p.W / 3, H: p.H / 3}, 2+source.IntN(4))
		at := make([]api.ShSpot, len(l))
		for i, c := range l {
			at[i] = api.ShSpot{Plate: source.IntN(2), Shelf: source.IntN(len(l)), X: source.Int64N(p.W - c.W + 1), Y: source.Int64N(p.H - c.H + 1)}
		}
		want := api.OK
		if collide(p, l, at) {
			want = api.ErrTwice
			bad++
		} else {
			good++
		}
		if e := Judge(p, l, at); e != want {
			t.Errorf("Judge(%v, %v, %v) = %d, want %d", p, l, at, e, want)
		}
	}
	if good < 1000 || bad < 1000 {
		t.Errorf("%d are good, %d are bad", good, bad)
	}
}

// P9.4: as many cuts as there may be, and the greatest sizes.
func TestGreatestJudgements(t *testing.T) {
	p := api.ShPlate{W: 20000000, H: 20000000, Kerf: 50000}
	l := slices.Repeat(cuts(950000, 1950000), 200)
	at := make([]api.ShSpot, 200)
	for i := range at {
		at[i] = api.ShSpot{Plate: 199, Shelf: 199, X: int64(i%20) * 1000000, Y: int64(i/20) * 2000000}
	}
	if e := Judge(p, l, at); e != api.OK {
		t.Errorf("Judge of 200 cuts = %d", e)
	}
	for _, i := range []int{0, 1, 198} {
		moved := slices.Clone(at)
		moved[i].X++
		if e := Judge(p, l, moved); e != api.ErrTwice {
			t.Errorf("Judge of 200 cuts, of which %d is moved = %d", i, e)
		}
	}
	for _, s := range []api.ShSpot{{Plate: 200}, {Shelf: 200}, {X: 19050001}, {Y: 18050001}} {
		moved := slices.Clone(at)
		moved[199] = s
		if e := Judge(p, l, moved); e != api.ErrArg {
			t.Errorf("Judge of 200 cuts, of which the last one lies at %v = %d", s, e)
		}
	}
}

// P9.4: known numbers of plates, also where cuts do not fit on any, and at the limits.
func TestKnownLeast(t *testing.T) {
	plate := api.ShPlate{W: 10, H: 10}
	for _, c := range []struct {
		p    api.ShPlate
		l    []api.ShCut
		want int
	}{
		{plate, nil, 0},
		{plate, []api.ShCut{}, 0},
		{plate, cuts(5, 8, 5, 8, 5, 8), 2},
		{plate, cuts(10, 10), 1},
		{plate, cuts(1, 1), 1},
		{plate, cuts(10, 10, 1, 1), 2},
		{plate, cuts(10, 5, 10, 5, 10, 5, 10, 5), 2},
		{plate, cuts(11, 1), 1},
		{plate, cuts(11, 11), 2},
		// 4 by 4 with the Kerf is 5 by 5, and the plate is 11 by 11: 5 of them have 125 of 121.
		{api.ShPlate{W: 10, H: 10, Kerf: 1}, cuts(4, 4, 4, 4, 4, 4, 4, 4), 1},
		{api.ShPlate{W: 10, H: 10, Kerf: 1}, cuts(4, 4, 4, 4, 4, 4, 4, 4, 4, 4), 2},
		{api.ShPlate{W: 10, H: 10, Kerf: 1}, cuts(10, 10), 1},
		// The area of a plate is W times H, whichever is greater.
		{api.ShPlate{W: 2, H: 30}, cuts(3, 20), 1},
		{api.ShPlate{W: 2, H: 30, Kerf: 1}, cuts(3, 22), 1},
		{api.ShPlate{W: 2, H: 30, Kerf: 1}, cuts(3, 23), 2},
		{api.ShPlate{W: 1, H: 1}, slices.Repeat(cuts(20000000, 20000000), 200), 80000000000000000},
		{api.ShPlate{W: 20000000, H: 20000000, Kerf: 50000}, slices.Repeat(cuts(20000000, 20000000), 200), 200},
		{api.ShPlate{W: 1, H: 1, Kerf: 50000}, slices.Repeat(cuts(20000000, 20000000), 200), 32158914},
	} {
		if n, e := Least(c.p, c.l); n != c.want || e != api.OK {
			t.Errorf("Least(%v) of %d cuts = %d, %d, want %d", c.p, len(c.l), n, e, c.want)
		}
	}
}

// P9.4: the numbers of plates are enough, and one less is not.
func TestLeast(t *testing.T) {
	source := rand.New(rand.NewPCG(9, 7))
	for range 3000 {
		p, other := anyPlate(source), anyPlate(source)
		l := anyCuts(source, other, source.IntN(201))
		n, e := Least(p, l)
		one := areaOf([]api.ShCut{{W: p.W, H: p.H}}, p.Kerf)
		need := areaOf(l, p.Kerf)
		enough, less := product(whole(int64(n)), one), product(whole(int64(n)-1), one)
		if n < 0 || enough.Cmp(need) < 0 || less.Cmp(need) >= 0 || e != api.OK {
			t.Errorf("Least(%v, %v) = %d, %d", p, l, n, e)
		}
	}
}
