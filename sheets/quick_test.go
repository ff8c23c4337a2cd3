package sheets

import (
	"math/rand/v2"
	"slices"
	"testing"

	"quintadena/api"
)

// P9.6: known quick nests.
func TestKnownQuick(t *testing.T) {
	plate, kerf := api.ShPlate{W: 10, H: 10}, api.ShPlate{W: 10, H: 10, Kerf: 1}
	for _, c := range []struct {
		p    api.ShPlate
		l    []api.ShCut
		want []api.ShSpot
	}{
		{plate, nil, nil},
		{plate, []api.ShCut{}, nil},
		{plate, cuts(10, 10), []api.ShSpot{{}}},
		{plate, cuts(5, 8, 5, 8, 5, 8), []api.ShSpot{{}, {X: 5}, {Plate: 1, Shelf: 1}}},
		{plate, cuts(4, 4, 9, 5, 5, 3), []api.ShSpot{{Shelf: 1, Y: 5}, {}, {Shelf: 1, X: 4, Y: 5}}},
		// The highest ones come first, then the widest ones, then the first ones.
		{plate, cuts(1, 1, 2, 2, 3, 3), []api.ShSpot{{X: 5}, {X: 3}, {}}},
		{plate, cuts(1, 3, 2, 3, 3, 3), []api.ShSpot{{X: 5}, {X: 3}, {}}},
		{plate, cuts(9, 1, 1, 2), []api.ShSpot{{X: 1}, {}}},
		{plate, cuts(2, 2, 2, 2, 2, 2), []api.ShSpot{{}, {X: 2}, {X: 4}}},
		{plate, cuts(2, 2, 3, 2, 2, 2, 3, 2), []api.ShSpot{{X: 6}, {}, {X: 8}, {X: 3}}},
		// The first shelf that has room, though a later one has just as much room as is needed.
		{plate, cuts(5, 4, 8, 3, 2, 2), []api.ShSpot{{}, {Shelf: 1, Y: 4}, {X: 5}}},
		{plate, cuts(5, 4, 8, 3, 6, 3, 2, 2, 2, 2, 2, 2), []api.ShSpot{{}, {Shelf: 1, Y: 4}, {Shelf: 2, Y: 7}, {X: 5}, {X: 7}, {Shelf: 1, X: 8, Y: 4}}},
		// The first plate that has room for a new shelf.
		{plate, cuts(10, 6, 10, 5, 10, 4), []api.ShSpot{{}, {Plate: 1, Shelf: 1}, {Shelf: 2, Y: 6}}},
		{plate, cuts(10, 7, 10, 6, 10, 4, 10, 3), []api.ShSpot{{}, {Plate: 1, Shelf: 1}, {Plate: 1, Shelf: 2, Y: 6}, {Shelf: 3, Y: 7}}},
		{plate, cuts(10, 4, 10, 4, 10, 3, 10, 2), []api.ShSpot{{}, {Shelf: 1, Y: 4}, {Plate: 1, Shelf: 2}, {Shelf: 3, Y: 8}}},
		// A shelf of a later plate comes before a new one on the first plate.
		{plate, cuts(10, 6, 8, 5, 2, 4), []api.ShSpot{{}, {Plate: 1, Shelf: 1}, {Plate: 1, Shelf: 1, X: 8}}},
		// The Kerf is between two cuts, not at the edges.
		{kerf, cuts(5, 5, 5, 5), []api.ShSpot{{}, {Plate: 1, Shelf: 1}}},
		{kerf, cuts(5, 5, 4, 5), []api.ShSpot{{}, {X: 6}}},
		{kerf, cuts(10, 5, 10, 4), []api.ShSpot{{}, {Shelf: 1, Y: 6}}},
		{kerf, cuts(10, 5, 10, 5), []api.ShSpot{{}, {Plate: 1, Shelf: 1}}},
		{kerf, cuts(5, 5, 4, 4, 10, 4), []api.ShSpot{{}, {X: 6}, {Shelf: 1, Y: 6}}},
		{kerf, cuts(10, 10, 10, 10), []api.ShSpot{{}, {Plate: 1, Shelf: 1}}},
	} {
		if at, e := Quick(c.p, c.l); !slices.Equal(at, c.want) || e != api.OK {
			t.Errorf("Quick(%v, %v) = %v, %d, want %v", c.p, c.l, at, e, c.want)
		}
	}
}

// P9.6: quick nests as they are defined.
func TestQuick(t *testing.T) {
	source := rand.New(rand.NewPCG(9, 11))
	look := func(most int) {
		p := anyPlate(source)
		l := anyCuts(source, p, source.IntN(most+1))
		if at, e := Quick(p, l); !slices.Equal(at, quickOf(p, l)) || e != api.OK {
			t.Errorf("Quick(%v, %v) = %v, %d, want %v", p, l, at, e, quickOf(p, l))
		}
	}
	for range 3000 {
		look(12)
	}
	for range 10 {
		look(200)
	}
}

// P9.6: as many cuts, plates and shelves as there may be.
func TestGreatQuick(t *testing.T) {
	p := api.ShPlate{W: 20000000, H: 20000000, Kerf: 50000}
	for _, c := range []struct {
		cut              api.ShCut
		ofShelf, ofPlate int
	}{{api.ShCut{W: 20000000, H: 20000000}, 1, 1}, {api.ShCut{W: 9975001, H: 19975000}, 1, 1}, {api.ShCut{W: 9975000, H: 9975000}, 2, 4}, {api.ShCut{W: 1, H: 1}, 200, 200}, {api.ShCut{W: 20000000, H: 50000}, 1, 200}} {
		at, e := Quick(p, slices.Repeat([]api.ShCut{c.cut}, 200))
		if len(at) != 200 || e != api.OK {
			t.Fatalf("Quick of 200 cuts %v = %d spots, %d", c.cut, len(at), e)
		}
		for i, s := range at {
			want := api.ShSpot{Plate: i / c.ofPlate, Shelf: i / c.ofShelf, X: int64(i%c.ofShelf) * (c.cut.W + 50000), Y: int64(i%c.ofPlate/c.ofShelf) * (c.cut.H + 50000)}
			if s != want {
				t.Errorf("Quick of 200 cuts %v: %d lies at %v, want %v", c.cut, i, s, want)
			}
		}
	}
}
