package sheets

import (
	"cmp"
	"slices"

	"quintadena/api"
)

// room is what a plate or a cut takes, made wider and higher by the Kerf. So the cuts on a plate have the Kerf between two if their rooms lie beside or above each other, and are on the plate if their rooms are in its room.
type room struct{ wide, high int64 }

// rooms are those of cuts.
type rooms []room

func roomsOf(p api.ShPlate, l []api.ShCut) (room, rooms) {
	cuts := make(rooms, len(l))
	for i, c := range l {
		cuts[i] = room{c.W + p.Kerf, c.H + p.Kerf}
	}
	return room{p.W + p.Kerf, p.H + p.Kerf}, cuts
}

func (r room) area() int64 {
	return r.wide * r.high
}

func (l rooms) area() int64 {
	var sum int64
	for _, r := range l {
		sum += r.area()
	}
	return sum
}

// overlap reports whether two of the rooms overlap on a plate.
func (l rooms) overlap(at []api.ShSpot) bool {
	for i, a := range l {
		for j, b := range l[:i] {
			p, q := at[i], at[j]
			beside := p.X+a.wide <= q.X || q.X+b.wide <= p.X
			above := p.Y+a.high <= q.Y || q.Y+b.high <= p.Y
			if p.Plate == q.Plate && !beside && !above {
				return true
			}
		}
	}
	return false
}

// falling returns the numbers of the rooms, the highest one first, of those the widest one, and of those the first one.
func (l rooms) falling() []int {
	order := make([]int, len(l))
	for i := range order {
		order[i] = i
	}
	slices.SortFunc(order, l.compare)
	return order
}

// compare returns below 0 if the room i comes before the room j.
func (l rooms) compare(i, j int) int {
	return cmp.Or(cmp.Compare(l[j].high, l[i].high), cmp.Compare(l[j].wide, l[i].wide), cmp.Compare(i, j))
}
