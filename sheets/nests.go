package sheets

import (
	"slices"

	"quintadena/api"
)

// shelf is a shelf of a plate, and the room that its cuts take.
type shelf struct {
	plate int
	room
}

// nest is a nest by shelves of the first cuts. It is a value, so that what is tried with the next one changes a copy.
type nest struct {
	plates, shelves, cuts int
	high                  int64 // of all shelves together
	list                  [api.MaxNest]shelf
	at                    [api.MaxNest]api.ShSpot // with no Y, as shelves may become higher
}

// Nest returns the spots of the best nest by shelves.
func Nest(p api.ShPlate, l []api.ShCut) ([]api.ShSpot, api.Errno) {
	if e := examineToNest(p, l, api.MaxNest); e != api.OK {
		return nil, e
	}
	return best(roomsOf(p, l)).spots(), api.OK
}

// best tries the places of each cut in the order of plates and shelves, so that the first one of equally good nests is the best.
func best(plate room, cuts rooms) nest {
	var found nest
	var try func(n nest)
	try = func(n nest) {
		// Further cuts make no nest better than it is.
		if found.cuts == len(cuts) && !n.better(found) {
			return
		}
		if n.cuts == len(cuts) {
			found = n
			return
		}
		for p := range n.plates + 1 {
			for s := range n.shelves + 1 {
				if s < n.shelves && n.list[s].plate != p {
					continue
				}
				if more := n.with(cuts[n.cuts], p, s); more.fits(plate, p, s) {
					try(more)
				}
			}
		}
	}
	try(nest{})
	return found
}

// better reports whether n has fewer plates, or as many and less used height. The used height of each plate is that of its shelves less one Kerf, which makes no difference between nests that have as many plates.
func (n nest) better(than nest) bool {
	if n.plates == than.plates {
		return n.high < than.high
	}
	return n.plates < than.plates
}

// with returns n with one more cut on a shelf of a plate, each of which may be a new one.
func (n nest) with(c room, p, s int) nest {
	old := n.list[s]
	n.plates = max(n.plates, p+1)
	n.shelves = max(n.shelves, s+1)
	n.at[n.cuts] = api.ShSpot{Plate: p, Shelf: s, X: old.wide}
	n.cuts++
	n.high += max(0, c.high-old.high)
	n.list[s] = shelf{p, room{old.wide + c.wide, max(old.high, c.high)}}
	return n
}

// fits reports whether a shelf is not too wide, and those of a plate are not too high together.
func (n nest) fits(plate room, p, s int) bool {
	return n.list[s].wide <= plate.wide && n.below(p, n.shelves) <= plate.high
}

// below returns how high those of the first shelves are that are on a plate.
func (n nest) below(plate, shelves int) int64 {
	var sum int64
	for _, s := range n.list[:shelves] {
		if s.plate == plate {
			sum += s.high
		}
	}
	return sum
}

func (n nest) spots() []api.ShSpot {
	l := slices.Clone(n.at[:n.cuts])
	for i, s := range l {
		l[i].Y = n.below(s.Plate, s.Shelf)
	}
	return l
}
