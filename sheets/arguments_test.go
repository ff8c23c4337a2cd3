package sheets

import (
	"math"
	"math/rand/v2"
	"slices"
	"testing"

	"quintadena/api"
)

// result is what a function of cuts returns: its error, and whether its other results are zero.
type result struct {
	zero bool
	e    api.Errno
}

// calls returns what the functions of a plate and cuts return; Judge gets as many spots.
func calls(p api.ShPlate, l []api.ShCut) map[string]result {
	all := map[string]result{"Judge": {true, Judge(p, l, make([]api.ShSpot, len(l)))}}
	n, e := Least(p, l)
	all["Least"] = result{n == 0, e}
	at, e := Nest(p, l)
	all["Nest"] = result{len(at) == 0, e}
	at, e = Quick(p, l)
	all["Quick"] = result{len(at) == 0, e}
	return all
}

// look compares the errors of the functions of a plate and cuts; Nest may have one of its own.
func look(t *testing.T, p api.ShPlate, l []api.ShCut, want, ofNest api.Errno) {
	t.Helper()
	for name, r := range calls(p, l) {
		expected := want
		if name == "Nest" {
			expected = ofNest
		}
		if !r.zero || r.e != expected {
			t.Errorf("%s(%v) of %d cuts: %v, want %d", name, p, len(l), r, expected)
		}
	}
}

// badPlates are plates that are not valid.
func badPlates() []api.ShPlate {
	l := []api.ShPlate{{}}
	for _, n := range []int64{0, -1, 20000001, math.MinInt64, math.MaxInt64, 1 << 62} {
		l = append(l, api.ShPlate{W: n, H: 10}, api.ShPlate{W: 10, H: n}, api.ShPlate{W: n, H: n, Kerf: 50000})
	}
	for _, n := range []int64{-1, 50001, math.MinInt64, math.MaxInt64} {
		l = append(l, api.ShPlate{W: 10, H: 10, Kerf: n}, api.ShPlate{W: 20000000, H: 20000000, Kerf: n})
	}
	return l
}

// badCuts are cuts that are not valid.
func badCuts() []api.ShCut {
	l := []api.ShCut{{}}
	for _, n := range []int64{0, -1, 20000001, math.MinInt64, math.MaxInt64, 1 << 62} {
		l = append(l, api.ShCut{W: n, H: 1}, api.ShCut{W: 1, H: n}, api.ShCut{W: n, H: n})
	}
	return l
}

// P9.4 to P9.6: a plate that is not valid is ErrArg, after ErrLong.
func TestBadPlates(t *testing.T) {
	for _, p := range badPlates() {
		look(t, p, nil, api.ErrArg, api.ErrArg)
		look(t, p, cuts(1, 1), api.ErrArg, api.ErrArg)
		look(t, p, cuts(20000000, 20000000, 20000000, 20000000), api.ErrArg, api.ErrArg)
		look(t, p, slices.Repeat(cuts(1, 1), 9), api.ErrArg, api.ErrLong)
		look(t, p, slices.Repeat(cuts(1, 1), 201), api.ErrLong, api.ErrLong)
	}
}

// P9.3 to P9.6: cuts that are not valid are ErrArg, wherever they are, after ErrLong and before ErrNone.
func TestBadCuts(t *testing.T) {
	p := api.ShPlate{W: 10, H: 10}
	for _, bad := range badCuts() {
		for _, l := range [][]api.ShCut{{bad}, {bad, {W: 1, H: 1}}, {{W: 1, H: 1}, bad}, {{W: 11, H: 1}, bad}, {bad, {W: 1, H: 11}}} {
			look(t, p, l, api.ErrArg, api.ErrArg)
			if n, e := Metal(l); n != 0 || e != api.ErrArg {
				t.Errorf("Metal(%v) = %d, %d", l, n, e)
			}
		}
		for _, n := range []int{9, 200, 201, 1000} {
			l := slices.Repeat(cuts(11, 11), n)
			l[n-1] = bad
			want := api.ErrArg
			if n > 200 {
				want = api.ErrLong
			}
			look(t, p, l, want, api.ErrLong)
			if n, e := Metal(l); n != 0 || e != want {
				t.Errorf("Metal(%v) = %d, %d", l, n, e)
			}
		}
	}
}

// P9.3 to P9.6: how many cuts there may be.
func TestTooManyCuts(t *testing.T) {
	p := api.ShPlate{W: 20000000, H: 20000000}
	for _, n := range []int{0, 1, 8, 9, 200, 201, 1000} {
		l := slices.Repeat(cuts(1, 1), n)
		want := map[string]api.Errno{"Judge": api.OK, "Least": api.OK, "Quick": api.OK, "Nest": api.OK}
		if n > 1 {
			want["Judge"] = api.ErrTwice
		}
		if n > 8 {
			want["Nest"] = api.ErrLong
		}
		if n > 200 {
			want["Judge"], want["Least"], want["Quick"] = api.ErrLong, api.ErrLong, api.ErrLong
		}
		for name, r := range calls(p, l) {
			if r.e != want[name] || name != "Judge" && r.zero != (n == 0 || r.e != api.OK) {
				t.Errorf("%s of %d cuts: %v, want %d", name, n, r, want[name])
			}
		}
		if sum, e := Metal(l); n > 200 != (e == api.ErrLong) || e == api.OK && sum != int64(n) || e != api.OK && sum != 0 {
			t.Errorf("Metal of %d cuts = %d, %d", n, sum, e)
		}
	}
}

// P9.5, P9.6: cuts that are wider or higher than a plate, whatever the Kerf is.
func TestGreaterThanPlates(t *testing.T) {
	for _, kerf := range []int64{0, 1, 50000} {
		p := api.ShPlate{W: 10, H: 20, Kerf: kerf}
		for _, c := range []api.ShCut{{W: 11, H: 1}, {W: 1, H: 21}, {W: 11, H: 21}, {W: 20, H: 10}, {W: 20000000, H: 20000000}} {
			for _, l := range [][]api.ShCut{{c}, {c, {W: 1, H: 1}}, {{W: 1, H: 1}, c}} {
				if at, e := Nest(p, l); len(at) != 0 || e != api.ErrNone {
					t.Errorf("Nest(%v, %v) = %v, %d", p, l, at, e)
				}
				if at, e := Quick(p, l); len(at) != 0 || e != api.ErrNone {
					t.Errorf("Quick(%v, %v) = %v, %d", p, l, at, e)
				}
			}
			if at, e := Nest(p, slices.Repeat([]api.ShCut{c}, 9)); len(at) != 0 || e != api.ErrLong {
				t.Errorf("Nest of nine cuts = %v, %d", at, e)
			}
			if at, e := Quick(p, slices.Repeat([]api.ShCut{c}, 201)); len(at) != 0 || e != api.ErrLong {
				t.Errorf("Quick of 201 cuts = %v, %d", at, e)
			}
		}
		for name, r := range calls(p, cuts(10, 20)) {
			if r.e != api.OK {
				t.Errorf("%s of a cut that is as great as the plate %v: %d", name, p, r.e)
			}
		}
	}
}

// P9.4: Judge looks at the cuts and the plate before it looks at the spots.
func TestOrderOfJudge(t *testing.T) {
	p := api.ShPlate{W: 10, H: 10}
	for _, at := range [][]api.ShSpot{nil, {{}}, make([]api.ShSpot, 200), make([]api.ShSpot, 201), make([]api.ShSpot, 300)} {
		if e := Judge(p, make([]api.ShCut, 201), at); e != api.ErrLong {
			t.Errorf("Judge of 201 cuts and %d spots = %d", len(at), e)
		}
		if e := Judge(p, cuts(1, 1, 1, 1), at); e != api.ErrArg {
			t.Errorf("Judge of two cuts and %d spots = %d", len(at), e)
		}
	}
}

// R1, R2: any arguments are accepted; with an error, all other results are zero.
func TestAnyArguments(t *testing.T) {
	source := rand.New(rand.NewPCG(9, 15))
	number := func() int64 {
		l := []int64{0, 1, -1, 2, 5, 10, 999, 1000, 1001, 10000, 20000, 30000, 50000, 1000000, 12000000, 20000000, 20000001, 1 << 62, math.MaxInt64, math.MinInt64}
		if source.IntN(3) > 0 {
			return l[source.IntN(len(l))]
		}
		return int64(source.Uint64() >> source.IntN(64))
	}
	allowed := []api.Errno{api.OK, api.ErrArg, api.ErrLong, api.ErrNone, api.ErrRange, api.ErrTwice}
	check := func(name string, zero bool, e api.Errno) {
		t.Helper()
		if !slices.Contains(allowed, e) || e != api.OK && !zero {
			t.Errorf("%s: %v, %d", name, zero, e)
		}
	}
	for range 5000 {
		c, e := Body(number(), number(), number())
		check("Body", c == api.ShCut{}, e)
		c, e = Foot(number(), number(), number(), number())
		check("Foot", c == api.ShCut{}, e)
		v, e := Weight(number(), number(), number())
		check("Weight", v == api.Iv{}, e)
		p := anyPlate(source)
		l := anyCuts(source, p, source.IntN(10))
		at := make([]api.ShSpot, source.IntN(len(l)+2))
		for i := range at {
			at[i] = api.ShSpot{Plate: int(number()), Shelf: int(number()), X: number(), Y: number()}
		}
		if len(l) > 0 && source.IntN(2) == 0 {
			l[source.IntN(len(l))] = api.ShCut{W: number(), H: number()}
		}
		if source.IntN(4) == 0 {
			p = api.ShPlate{W: number(), H: number(), Kerf: number()}
		}
		area, e := Metal(l)
		check("Metal", area == 0, e)
		for name, r := range calls(p, l) {
			check(name, r.zero, r.e)
		}
		check("Judge", true, Judge(p, l, at))
	}
}

// R3, R6: arguments are not changed, nor what lies behind them, and results are new memory and the same again.
func TestMemory(t *testing.T) {
	source := rand.New(rand.NewPCG(9, 16))
	p := api.ShPlate{W: 12, H: 12, Kerf: 1}
	all := anyCuts(source, p, 20)
	before := slices.Clone(all)
	l := all[:8]
	for name, nest := range map[string]func(p api.ShPlate, l []api.ShCut) ([]api.ShSpot, api.Errno){"Nest": Nest, "Quick": Quick} {
		first := sure(nest(p, l))
		want := slices.Clone(first)
		if e := Judge(p, l, first); e != api.OK || !slices.Equal(first, want) {
			t.Errorf("Judge of %s is %d, and leaves %v of %v", name, e, first, want)
		}
		second := sure(nest(p, l))
		for i := range first[:cap(first)] {
			first[:cap(first)][i] = api.ShSpot{Plate: -1, Shelf: -1, X: -1, Y: -1}
		}
		if !slices.Equal(second, want) || !slices.Equal(sure(nest(p, l)), want) {
			t.Errorf("%s returns memory that is not new", name)
		}
	}
	Metal(l)
	Least(p, l)
	if !slices.Equal(all, before) {
		t.Errorf("the cuts are %v, and were %v", all, before)
	}
}
