package sheets

import (
	"math/rand/v2"
	"slices"
	"testing"

	"quintadena/api"
)

// P9.5: known nests.
func TestKnownNests(t *testing.T) {
	plate, kerf := api.ShPlate{W: 10, H: 10}, api.ShPlate{W: 10, H: 10, Kerf: 1}
	great := api.ShPlate{W: 20000000, H: 20000000, Kerf: 50000}
	for _, c := range []struct {
		p    api.ShPlate
		l    []api.ShCut
		want []api.ShSpot
	}{
		{plate, nil, nil},
		{plate, []api.ShCut{}, nil},
		{plate, cuts(10, 10), []api.ShSpot{{}}},
		{plate, cuts(5, 8, 5, 8, 5, 8), []api.ShSpot{{}, {X: 5}, {Plate: 1, Shelf: 1}}},
		{plate, cuts(4, 4, 9, 5, 5, 3), []api.ShSpot{{}, {Shelf: 1, Y: 4}, {X: 4}}},
		// The Kerf is between two cuts, not at the edges.
		{kerf, cuts(5, 5, 5, 5), []api.ShSpot{{}, {Plate: 1, Shelf: 1}}},
		{kerf, cuts(5, 5, 4, 5), []api.ShSpot{{}, {X: 6}}},
		{kerf, cuts(10, 5, 10, 4), []api.ShSpot{{}, {Shelf: 1, Y: 6}}},
		{kerf, cuts(10, 5, 10, 5), []api.ShSpot{{}, {Plate: 1, Shelf: 1}}},
		{kerf, cuts(5, 5, 4, 4, 10, 4), []api.ShSpot{{}, {X: 6}, {Shelf: 1, Y: 6}}},
		{kerf, cuts(10, 10, 10, 10), []api.ShSpot{{}, {Plate: 1, Shelf: 1}}},
		// A later cut makes a shelf higher, so that what lies above it moves.
		{plate, cuts(9, 2, 9, 3, 1, 4), []api.ShSpot{{}, {Shelf: 1, Y: 2}, {Shelf: 1, X: 9, Y: 2}}},
		{plate, cuts(9, 3, 9, 2, 1, 4), []api.ShSpot{{}, {Shelf: 1, Y: 4}, {X: 9}}},
		// A cut can lie on a shelf that was begun before the last one.
		{plate, cuts(4, 5, 7, 5, 4, 5), []api.ShSpot{{}, {Shelf: 1, Y: 5}, {X: 4}}},
		// Fewer plates come before less height: 7 and 3 as well as 6 and 4 fill a plate.
		{plate, cuts(10, 7, 10, 6, 10, 4, 10, 3), []api.ShSpot{{}, {Plate: 1, Shelf: 1}, {Plate: 1, Shelf: 2, Y: 6}, {Shelf: 3, Y: 7}}},
		{plate, cuts(1, 1, 1, 1, 1, 1), []api.ShSpot{{}, {X: 1}, {X: 2}}},
		// Where as much height is used, cuts have the first plate, then the first shelf; a new shelf of the first plate comes before one of the second plate.
		{plate, cuts(6, 1, 6, 1, 4, 1), []api.ShSpot{{}, {Shelf: 1, Y: 1}, {X: 6}}},
		{plate, cuts(10, 6, 10, 6, 10, 4), []api.ShSpot{{}, {Plate: 1, Shelf: 1}, {Shelf: 2, Y: 6}}},
		{plate, cuts(10, 6, 5, 6, 5, 4, 5, 4), []api.ShSpot{{}, {Plate: 1, Shelf: 1}, {Shelf: 2, Y: 6}, {Shelf: 2, X: 5, Y: 6}}},
		{plate, cuts(10, 10, 10, 10, 10, 10, 10, 10, 10, 10, 10, 10, 10, 10, 10, 10), []api.ShSpot{{}, {Plate: 1, Shelf: 1}, {Plate: 2, Shelf: 2}, {Plate: 3, Shelf: 3}, {Plate: 4, Shelf: 4}, {Plate: 5, Shelf: 5}, {Plate: 6, Shelf: 6}, {Plate: 7, Shelf: 7}}},
		{great, cuts(20000000, 20000000, 1, 1), []api.ShSpot{{}, {Plate: 1, Shelf: 1}}},
		{great, cuts(19949999, 20000000, 1, 1), []api.ShSpot{{}, {X: 19999999}}},
		{great, cuts(20000000, 19949999, 20000000, 1), []api.ShSpot{{}, {Shelf: 1, Y: 19999999}}},
		{great, cuts(19950000, 19950000, 1, 1), []api.ShSpot{{}, {Plate: 1, Shelf: 1}}},
	} {
		if at, e := Nest(c.p, c.l); !slices.Equal(at, c.want) || e != api.OK {
			t.Errorf("Nest(%v, %v) = %v, %d, want %v", c.p, c.l, at, e, c.want)
		}
	}
}

// lookAtNest compares Nest with the reference.
func lookAtNest(t *testing.T, p api.ShPlate, l []api.ShCut) laid {
	t.Helper()
	want := nestOf(p, l)
	if at, e := Nest(p, l); !slices.Equal(at, want.at) || e != api.OK {
		t.Errorf("Nest(%v, %v) = %v, %d, want %v", p, l, at, e, want.at)
	}
	return want
}

// P9.5, P9.8: no nest by shelves is better.
func TestNests(t *testing.T) {
	source := rand.New(rand.NewPCG(9, 8))
	var one, several int
	for range 3000 {
		p := anyPlate(source)
		switch n := lookAtNest(t, p, anyCuts(source, p, source.IntN(6))); {
		case count(n.plates) == 1 && count(n.shelves) > 1:
			one++
		case count(n.plates) > 1 && count(n.shelves) > count(n.plates):
			several++
		}
	}
	if one < 100 || several < 100 {
		t.Errorf("%d nests have one plate and several shelves, %d have several plates and more shelves", one, several)
	}
}

// P9.5, P9.8: as many cuts as there may be.
func TestGreatNests(t *testing.T) {
	source := rand.New(rand.NewPCG(9, 9))
	for _, n := range []int{6, 7, 8} {
		for range 16 >> (n - 6) {
			p := anyPlate(source)
			lookAtNest(t, p, anyCuts(source, p, n))
		}
	}
	p := api.ShPlate{W: 20, H: 20}
	lookAtNest(t, p, slices.Repeat(cuts(11, 11), 8))
	lookAtNest(t, p, slices.Repeat(cuts(1, 1), 8))
	lookAtNest(t, p, slices.Repeat(cuts(11, 5), 8))
}

// P9.5: nests for which shelves that are begun for the highest cuts are not the best.
func TestNestsBeatQuick(t *testing.T) {
	source := rand.New(rand.NewPCG(9, 10))
	fewer := 0
	for range 4000 {
		p := api.ShPlate{W: 10, H: 10, Kerf: source.Int64N(2)}
		l := anyCuts(source, p, 6)
		if k := sure(Quick(p, l)); plates(k) > plates(sure(Nest(p, l))) {
			fewer++
			if fewer <= 20 {
				lookAtNest(t, p, l)
			}
		}
	}
	if fewer < 10 {
		t.Errorf("only %d nests have fewer plates", fewer)
	}
}

// plates returns how many plates spots are on.
func plates(at []api.ShSpot) int {
	n := 0
	for _, s := range at {
		n = max(n, s.Plate+1)
	}
	return n
}
