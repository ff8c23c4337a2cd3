package sheets

import (
	"slices"

	"quintadena/api"
)

// stack is plates with shelves, of which none becomes higher.
type stack struct {
	plate   room
	used    []int64      // how high the shelves of each plate are
	shelves []api.ShSpot // where each one goes on
}

// Quick returns the spots of a nest by shelves that is made in one go.
func Quick(p api.ShPlate, l []api.ShCut) ([]api.ShSpot, api.Errno) {
	if e := examineToNest(p, l, api.MaxCuts); e != api.OK {
		return nil, e
	}
	plate, cuts := roomsOf(p, l)
	k := stack{plate: plate}
	at := make([]api.ShSpot, len(l))
	for _, i := range cuts.falling() {
		at[i] = k.put(cuts[i])
	}
	return at, api.OK
}

// put returns where a cut lies that is not higher than those before it.
func (k *stack) put(c room) api.ShSpot {
	i := slices.IndexFunc(k.shelves, func(s api.ShSpot) bool { return s.X+c.wide <= k.plate.wide })
	if i < 0 {
		i = k.begin(c.high)
	}
	s := k.shelves[i]
	k.shelves[i].X += c.wide
	return s
}

// begin begins a shelf and returns its number.
func (k *stack) begin(high int64) int {
	p := slices.IndexFunc(k.used, func(used int64) bool { return used+high <= k.plate.high })
	if p < 0 {
		p = len(k.used)
		k.used = append(k.used, 0)
	}
	n := len(k.shelves)
	k.shelves = append(k.shelves, api.ShSpot{Plate: p, Shelf: n, Y: k.used[p]})
	k.used[p] += high
	return n
}
