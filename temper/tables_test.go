package temper

import (
	"math"
	"math/rand/v2"
	"slices"
	"testing"

	"quintadena/api"
)

// excess returns what Triad must return for a class.
func excess(t api.Temper, class int) (third, fifth int64) {
	third = millicents(over(upTo(t, class, (class+4)%12), exponents(-2, 0, 1)))
	fifth = millicents(over(upTo(t, class, (class+7)%12), exponents(-1, 1, 0)))
	return third, fifth
}

// P5.3: Cents and Off are those of the definitions.
func TestCentsAndOff(t *testing.T) {
	for _, x := range tempers(rand.New(rand.NewPCG(5, 8)), 100) {
		l, e := Cents(x)
		if len(l) != 12 || e != api.OK {
			t.Fatalf("Cents(%v) = %v, %d", x, l, e)
		}
		off, e := Off(x)
		if len(off) != 12 || e != api.OK {
			t.Fatalf("Off(%v) = %v, %d", x, off, e)
		}
		for class := range 12 {
			if want := millicents(noteOf(x, class)); l[class] != want || off[class] != want-100000*int64(class) {
				t.Errorf("%v: the class %d has %d, off by %d, want %d", x, class, l[class], off[class], want)
			}
		}
	}
}

// P5.3: known tables.
func TestKnownTables(t *testing.T) {
	for name, want := range map[string][]int64{
		"equal":       {0, 0, 0, 0, 0, 0, 0, 0, 0, 0, 0, 0},
		"pythagorean": {0, 13685, 3910, -5866, 7820, -1956, 11730, 1955, 15640, 5865, -3911, 9775},
	} {
		if l, e := Off(sure(Standard(name))); !slices.Equal(l, want) || e != api.OK {
			t.Errorf("Off of %s = %v, %d", name, l, e)
		}
	}
	for _, c := range []struct {
		name  string
		class int
		want  int64
	}{{"equal", 7, 700000}, {"meantone", 4, 386313}, {"meantone", 7, 696578}, {"pythagorean", 4, 407820}, {"werckmeister", 7, 696089}, {"werckmeister", 9, 888269}, {"kirnberger", 4, 386313}, {"vallotti", 5, 501955}} {
		if l, e := Cents(sure(Standard(c.name))); l[c.class] != c.want || e != api.OK {
			t.Errorf("Cents of %s = %v, %d: the class %d, want %d", c.name, l, e, c.class, c.want)
		}
	}
}

// P5.3: Triad of all classes, and of classes that there are not.
func TestTriad(t *testing.T) {
	for _, x := range tempers(rand.New(rand.NewPCG(5, 9)), 20) {
		for class := range 12 {
			wantThird, wantFifth := excess(x, class)
			if third, fifth, e := Triad(x, class); third != wantThird || fifth != wantFifth || e != api.OK {
				t.Errorf("Triad(%v, %d) = %d, %d, %d, want %d, %d", x, class, third, fifth, e, wantThird, wantFifth)
			}
		}
	}
	x := sure(Standard("meantone"))
	for class, want := range map[int][2]int64{0: {0, -5377}, 8: {41058, 35682}, 1: {41058, -5377}} {
		if third, fifth, e := Triad(x, class); third != want[0] || fifth != want[1] || e != api.OK {
			t.Errorf("Triad of meantone at %d = %d, %d, %d", class, third, fifth, e)
		}
	}
	for _, class := range []int{-1, 12, math.MinInt, math.MaxInt} {
		if third, fifth, e := Triad(x, class); third != 0 || fifth != 0 || e != api.ErrArg {
			t.Errorf("Triad at %d = %d, %d, %d", class, third, fifth, e)
		}
	}
}

// P5.3: Keys, by the sum and then by class.
func TestKeys(t *testing.T) {
	for name, want := range map[string][]int{
		"meantone":    {0, 2, 3, 4, 5, 7, 9, 10, 1, 6, 11, 8},
		"equal":       {0, 1, 2, 3, 4, 5, 6, 7, 8, 9, 10, 11},
		"pythagorean": {1, 6, 11, 0, 2, 3, 4, 5, 7, 9, 10, 8},
	} {
		if l, e := Keys(sure(Standard(name))); !slices.Equal(l, want) || e != api.OK {
			t.Errorf("Keys of %s = %v, %d", name, l, e)
		}
	}
	for _, x := range tempers(rand.New(rand.NewPCG(5, 10)), 20) {
		l, e := Keys(x)
		if len(l) != 12 || e != api.OK {
			t.Fatalf("Keys(%v) = %v, %d", x, l, e)
		}
		var sums [12]int64
		for class := range 12 {
			third, fifth := excess(x, class)
			sums[class] = absolute(third) + absolute(fifth)
		}
		for i := range 11 {
			a, b := l[i], l[i+1]
			if sums[a] > sums[b] || sums[a] == sums[b] && a >= b {
				t.Errorf("Keys(%v) = %v: %d with %d comes before %d with %d", x, l, a, sums[a], b, sums[b])
			}
		}
		slices.Sort(l)
		if !slices.Equal(l, []int{0, 1, 2, 3, 4, 5, 6, 7, 8, 9, 10, 11}) {
			t.Errorf("Keys(%v) are %v", x, l)
		}
	}
}

// P5.3: Wolves above numbers that there are, next to them, and at the limits.
func TestWolves(t *testing.T) {
	all := []int{0, 1, 2, 3, 4, 5, 6, 7, 8, 9, 10, 11}
	for _, c := range []struct {
		name string
		most int64
		want []int
	}{
		{"meantone", 10000, []int{8}},
		{"meantone", 35682, nil},
		{"meantone", 35681, []int{8}},
		{"meantone", 5377, []int{8}},
		{"meantone", 5376, all},
		{"equal", 1955, all},
		{"equal", 1956, nil},
		{"pythagorean", 0, []int{8}},
		{"werckmeister", 0, []int{0, 2, 7, 11}},
		{"equal", 1200000, nil},
	} {
		if l, e := Wolves(sure(Standard(c.name)), c.most); !slices.Equal(l, c.want) || e != api.OK {
			t.Errorf("Wolves of %s above %d = %v, %d, want %v", c.name, c.most, l, e, c.want)
		}
	}
	for _, most := range []int64{-1, 1200001, math.MinInt64, math.MaxInt64} {
		if l, e := Wolves(quarter(), most); len(l) != 0 || e != api.ErrArg {
			t.Errorf("Wolves above %d = %v, %d", most, l, e)
		}
	}
	for _, x := range tempers(rand.New(rand.NewPCG(5, 11)), 20) {
		for _, most := range []int64{0, 1, 20000, 1199999, 1200000} {
			var want []int
			for class := range 12 {
				if _, fifth := excess(x, class); absolute(fifth) > most {
					want = append(want, class)
				}
			}
			if l, e := Wolves(x, most); !slices.Equal(l, want) || e != api.OK {
				t.Errorf("Wolves(%v, %d) = %v, %d, want %v", x, most, l, e, want)
			}
		}
	}
}

// P5.3: where all notes are whole numbers of semitones, whichever fifth is the Wolf.
func TestEqualTables(t *testing.T) {
	for wolf := range 12 {
		x := tempered(false, wolf, api.CommaPart{Num: 1, Den: 12})
		for class := range 12 {
			if l := sure(Cents(x)); l[class] != 100000*int64(class) {
				t.Errorf("the class %d has %d", class, l[class])
			}
			// Exactly 13686.28.. and -1955.0008..
			if third, fifth, e := Triad(x, class); third != 13686 || fifth != -1956 || e != api.OK {
				t.Errorf("the triad %d has %d and %d, %d", class, third, fifth, e)
			}
		}
	}
}
