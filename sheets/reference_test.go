package sheets

import (
	"math/big"
	"math/rand/v2"
	"slices"
	"testing"

	"quintadena/api"
)

// The reference follows the chapter's definitions word by word: with whole numbers of math/big that it rounds itself, and with nests of which it looks at each one.

func whole(n int64) *big.Int { return big.NewInt(n) }

func product(a, b *big.Int) *big.Int { return new(big.Int).Mul(a, b) }

// down and up return a / b, rounded.
func down(a, b *big.Int) *big.Int { return new(big.Int).Div(a, b) }

func up(a, b *big.Int) *big.Int { return new(big.Int).Neg(down(new(big.Int).Neg(a), b)) }

// piUp returns n times pi, rounded up, if n is not below 0.
func piUp(n *big.Int) *big.Int {
	return up(product(n, whole(3141592653589793239)), whole(1000000000000000000))
}

// bodyOf returns what Body must return for valid arguments.
func bodyOf(diameter, length, seam int64) api.ShCut {
	return api.ShCut{W: piUp(whole(diameter)).Int64() + seam, H: length}
}

// footOf returns what Foot must return for valid arguments.
func footOf(top, toe, length, seam int64) api.ShCut {
	square := whole(4*length*length + (top-toe)*(top-toe))
	low := new(big.Int).Sqrt(square)
	high := low
	if product(low, low).Cmp(square) < 0 {
		high = new(big.Int).Add(low, whole(1))
	}
	low, high = down(low, whole(2)), up(high, whole(2))
	x := up(piUp(piUp(whole(top*(top-toe)))), product(whole(8), low))
	return api.ShCut{W: bodyOf(top, length, seam).W, H: high.Int64() + x.Int64()}
}

// weightOf returns what Weight must return for valid arguments.
func weightOf(area, thick, density int64) api.Iv {
	n := product(whole(area), product(whole(thick), whole(density)))
	return api.Iv{Lo: down(n, whole(1000000000000)).Int64(), Hi: up(n, whole(1000000000000)).Int64()}
}

// areaOf returns the sum of the areas of cuts that are made greater by a number.
func areaOf(l []api.ShCut, greater int64) *big.Int {
	sum := whole(0)
	for _, c := range l {
		sum.Add(sum, product(whole(c.W+greater), whole(c.H+greater)))
	}
	return sum
}

// collide reports whether two cuts that are made wider and higher by the Kerf take the same square of a plate; all of them are small.
func collide(p api.ShPlate, l []api.ShCut, at []api.ShSpot) bool {
	type square struct {
		plate int
		x, y  int64
	}
	taken := map[square]bool{}
	for i, c := range l {
		for x := range c.W + p.Kerf {
			for y := range c.H + p.Kerf {
				q := square{at[i].Plate, at[i].X + x, at[i].Y + y}
				if taken[q] {
					return true
				}
				taken[q] = true
			}
		}
	}
	return false
}

// growths returns all ways to number n things so that groups of them have numbers in the order of their first things.
func growths(n int) [][]int {
	l := [][]int{nil}
	for range n {
		var longer [][]int
		for _, g := range l {
			for next := range count(g) + 1 {
				longer = append(longer, append(slices.Clone(g), next))
			}
		}
		l = longer
	}
	return l
}

// count returns how many groups there are.
func count(numbers []int) int {
	if len(numbers) == 0 {
		return 0
	}
	return slices.Max(numbers) + 1
}

// sizes returns the sum of sizes with the Kerf between two.
func sizes(l []int64, kerf int64) int64 {
	var sum int64
	for i, n := range l {
		if i > 0 {
			sum += kerf
		}
		sum += n
	}
	return sum
}

// laid is a nest by shelves: the shelf of each cut and the plate of each shelf, and what follows from them.
type laid struct {
	shelves, plates []int
	used            int64
	at              []api.ShSpot
}

// highs returns how high the shelves of a nest are.
func highs(l []api.ShCut, shelves []int) []int64 {
	h := make([]int64, count(shelves))
	for i, s := range shelves {
		h[s] = max(h[s], l[i].H)
	}
	return h
}

// lay returns a nest, if its shelves and plates have room for the cuts, which are put on shelves in an order.
func lay(p api.ShPlate, l []api.ShCut, order, shelves, plates []int) (laid, bool) {
	n := laid{shelves: shelves, plates: plates, at: make([]api.ShSpot, len(l))}
	high := highs(l, shelves)
	widths, heights, begins := make([][]int64, len(plates)), make([][]int64, count(plates)), make([]int64, len(plates))
	for s, plate := range plates {
		if len(heights[plate]) > 0 {
			begins[s] = sizes(heights[plate], p.Kerf) + p.Kerf
		}
		heights[plate] = append(heights[plate], high[s])
	}
	for _, i := range order {
		s := shelves[i]
		n.at[i] = api.ShSpot{Plate: plates[s], Shelf: s, Y: begins[s]}
		if len(widths[s]) > 0 {
			n.at[i].X = sizes(widths[s], p.Kerf) + p.Kerf
		}
		widths[s] = append(widths[s], l[i].W)
		if sizes(widths[s], p.Kerf) > p.W {
			return laid{}, false
		}
	}
	for _, h := range heights {
		if sizes(h, p.Kerf) > p.H {
			return laid{}, false
		}
		n.used += sizes(h, p.Kerf)
	}
	return n, true
}

// isBetter reports whether one nest is better than another one.
func isBetter(n, than laid) bool {
	if count(n.plates) != count(than.plates) {
		return count(n.plates) < count(than.plates)
	}
	if n.used != than.used {
		return n.used < than.used
	}
	for i := range n.at {
		if n.at[i].Plate != than.at[i].Plate {
			return n.at[i].Plate < than.at[i].Plate
		}
		if n.at[i].Shelf != than.at[i].Shelf {
			return n.at[i].Shelf < than.at[i].Shelf
		}
	}
	return false
}

// allNests calls a function with each nest by shelves, the last ones first.
func allNests(p api.ShPlate, l []api.ShCut, look func(n laid)) {
	plates := map[int][][]int{}
	for _, shelves := range slices.Backward(growths(len(l))) {
		k := count(shelves)
		if plates[k] == nil {
			plates[k] = growths(k)
		}
		for _, g := range slices.Backward(plates[k]) {
			if n, fits := lay(p, l, numbers(len(l)), shelves, g); fits {
				look(n)
			}
		}
	}
}

// nestOf returns the best nest, if each cut fits on a plate.
func nestOf(p api.ShPlate, l []api.ShCut) laid {
	var best laid
	allNests(p, l, func(n laid) {
		if best.at == nil || isBetter(n, best) {
			best = n
		}
	})
	return best
}

// numbers returns the first numbers from 0 on.
func numbers(n int) []int {
	l := make([]int, n)
	for i := range l {
		l[i] = i
	}
	return l
}

// quickOf returns what Quick must return, if each cut fits on a plate. It looks for the first shelf or plate by laying the cuts on each of them.
func quickOf(p api.ShPlate, l []api.ShCut) []api.ShSpot {
	order := numbers(len(l))
	slices.SortStableFunc(order, func(i, j int) int {
		if l[i].H != l[j].H {
			return int(l[j].H - l[i].H)
		}
		return int(l[j].W - l[i].W)
	})
	var cuts []api.ShCut
	var shelves, plates []int
	for _, i := range order {
		cuts = append(cuts, l[i])
		shelves, plates = placed(p, cuts, shelves, plates)
	}
	n, _ := lay(p, cuts, numbers(len(cuts)), shelves, plates)
	at := make([]api.ShSpot, len(l))
	for k, i := range order {
		at[i] = n.at[k]
	}
	return at
}

// placed returns shelves and plates with the last cut.
func placed(p api.ShPlate, cuts []api.ShCut, shelves, plates []int) (longer, more []int) {
	for s := range plates {
		longer := append(slices.Clone(shelves), s)
		if _, fits := lay(p, cuts, numbers(len(cuts)), longer, plates); fits {
			return longer, plates
		}
	}
	longer = append(slices.Clone(shelves), len(plates))
	for plate := range count(plates) + 1 {
		more := append(slices.Clone(plates), plate)
		if _, fits := lay(p, cuts, numbers(len(cuts)), longer, more); fits {
			return longer, more
		}
	}
	panic("a cut is greater than a plate")
}

// sure returns a result that can't be an error.
func sure[T any](x T, e api.Errno) T {
	if e != api.OK {
		panic(e)
	}
	return x
}

// between returns a number from least to most; often a limit, and often one that is near least.
func between(source *rand.Rand, least, most int64) int64 {
	switch source.IntN(8) {
	case 0:
		return least
	case 1:
		return most
	case 2, 3:
		return least + source.Int64N(most-least+1)>>source.IntN(16)
	}
	return least + source.Int64N(most-least+1)
}

// anyPlate returns a valid plate; most are so small that sums of sizes are often equal.
func anyPlate(source *rand.Rand) api.ShPlate {
	if source.IntN(4) == 0 {
		return api.ShPlate{W: between(source, 1, 20000000), H: between(source, 1, 20000000), Kerf: between(source, 0, 50000)}
	}
	return api.ShPlate{W: 1 + source.Int64N(20), H: 1 + source.Int64N(20), Kerf: source.Int64N(4)}
}

// anyCuts returns n cuts that fit on a plate; often many of them are small, or alike.
func anyCuts(source *rand.Rand, p api.ShPlate, n int) []api.ShCut {
	part := 1 + source.Int64N(4)
	var l []api.ShCut
	for range n {
		c := api.ShCut{W: 1 + source.Int64N(max(1, p.W/part)), H: 1 + source.Int64N(max(1, p.H/part))}
		switch k := source.IntN(4); {
		case k == 0 && len(l) > 0:
			c = l[source.IntN(len(l))]
		case k == 1 && len(l) > 0:
			c.H = l[source.IntN(len(l))].H
		}
		l = append(l, c)
	}
	return l
}

// cuts returns cuts of pairs of sizes.
func cuts(l ...int64) []api.ShCut {
	var out []api.ShCut
	for p := range slices.Chunk(l, 2) {
		out = append(out, api.ShCut{W: p[0], H: p[1]})
	}
	return out
}

// The reference has what the chapter's examples have.
func TestReference(t *testing.T) {
	if c := bodyOf(100000, 1000000, 5000); c != (api.ShCut{W: 319160, H: 1000000}) {
		t.Errorf("the body is %v", c)
	}
	if c := footOf(100000, 0, 200000, 0); c != (api.ShCut{W: 314160, H: 266000}) {
		t.Errorf("the foot is %v", c)
	}
	if v := weightOf(1000000000000, 1000, 11340); v != (api.Iv{Lo: 11340000, Hi: 11340000}) {
		t.Errorf("the weight is %v", v)
	}
	p, l := api.ShPlate{W: 10, H: 10}, cuts(4, 4, 9, 5, 5, 3)
	if n := nestOf(p, l); n.used != 9 || !slices.Equal(n.at, []api.ShSpot{{}, {Shelf: 1, Y: 4}, {X: 4}}) {
		t.Errorf("the best nest is %v", n)
	}
	if at := quickOf(p, l); !slices.Equal(at, []api.ShSpot{{Shelf: 1, Y: 5}, {}, {Shelf: 1, X: 4, Y: 5}}) {
		t.Errorf("the quick nest is %v", at)
	}
	tried := 0
	allNests(api.ShPlate{W: 8, H: 8}, cuts(1, 1, 1, 1, 1, 1, 1, 1), func(laid) { tried++ })
	if tried != 60 {
		t.Errorf("four cuts have %d nests", tried)
	}
	two := api.ShPlate{W: 10, H: 10, Kerf: 1}
	if at := []api.ShSpot{{}, {X: 2}}; !collide(two, cuts(2, 2, 2, 2), at) || collide(p, cuts(2, 2, 2, 2), at) {
		t.Error("two cuts collide without a Kerf, or do not with one")
	}
}
