package temper

import (
	"math"
	"math/rand/v2"
	"testing"

	"quintadena/api"
	"quintadena/ratios"
)

// P5.2: the fifths and the notes are those of the definitions.
func TestFifthsAndNotes(t *testing.T) {
	for _, x := range tempers(rand.New(rand.NewPCG(5, 4)), 100) {
		fifths, e := Fifths(x)
		if len(fifths) != 12 || e != api.OK {
			t.Fatalf("Fifths(%v) = %v, %d", x, fifths, e)
		}
		notes, e := Notes(x)
		if len(notes) != 12 || e != api.OK {
			t.Fatalf("Notes(%v) = %v, %d", x, notes, e)
		}
		for i := range 12 {
			if want := ratioOf(sizeOf(x, i)); fifths[i] != want {
				t.Errorf("Fifths(%v): %d is %v, want %v", x, i, fifths[i], want)
			}
			if want := ratioOf(noteOf(x, i)); notes[i] != want {
				t.Errorf("Notes(%v): %d is %v, want %v", x, i, notes[i], want)
			}
		}
	}
}

// P5.2: known fifths and notes.
func TestKnownNotes(t *testing.T) {
	texts := func(l []api.Ratio, e api.Errno) []string {
		var texts []string
		for _, r := range sure(l, e) {
			texts = append(texts, sure(ratios.Text(r)))
		}
		return texts
	}
	for name, want := range map[string]map[int]string{
		"equal":       {0: "2^7/12", 5: "2^7/12", 11: "2^7/12"},
		"pythagorean": {0: "2^-1 3^1", 7: "2^-1 3^1", 8: "2^18 3^-11", 9: "2^-1 3^1"},
		"meantone":    {0: "5^1/4", 8: "2^7 5^-11/4", 11: "5^1/4"},
		"kirnberger":  {0: "5^1/4", 4: "2^-1 3^1", 6: "2^14 3^-7 5^-1"},
	} {
		l := texts(Fifths(sure(Standard(name))))
		for i, s := range want {
			if l[i] != s {
				t.Errorf("%s: the fifth %d is %s, want %s", name, i, l[i], s)
			}
		}
	}
	for name, want := range map[string]map[int]string{
		"equal":        {0: "1", 1: "2^1/12", 4: "2^1/3", 6: "2^1/2", 11: "2^11/12"},
		"pythagorean":  {0: "1", 2: "2^-3 3^2", 4: "2^-6 3^4", 5: "2^2 3^-1", 8: "2^-12 3^8", 3: "2^5 3^-3"},
		"meantone":     {0: "1", 2: "2^-1 5^1/2", 4: "2^-2 5^1", 7: "5^1/4", 8: "2^-4 5^2", 3: "2^2 5^-3/4", 5: "2^1 5^-1/4"},
		"kirnberger":   {4: "2^-2 5^1", 11: "2^-3 3^1 5^1", 6: "2^-5 3^2 5^1", 1: "2^8 3^-5", 5: "2^2 3^-1"},
		"werckmeister": {5: "2^2 3^-1", 7: "2^15/4 3^-2"},
	} {
		l := texts(Notes(sure(Standard(name))))
		for class, s := range want {
			if l[class] != s {
				t.Errorf("%s: the note %d is %s, want %s", name, class, l[class], s)
			}
		}
	}
}

// P5.2: how far it is from class to class, and classes that there are not.
func TestBetween(t *testing.T) {
	for _, x := range tempers(rand.New(rand.NewPCG(5, 5)), 10) {
		for from := range 12 {
			for to := range 12 {
				r, e := Between(x, from, to)
				if want := ratioOf(upTo(x, from, to)); r != want || e != api.OK {
					t.Errorf("Between(%v, %d, %d) = %v, %d, want %v", x, from, to, r, e, want)
				}
			}
		}
	}
	x := sure(Standard("pythagorean"))
	for _, c := range []struct {
		from, to int
		want     string
	}{{8, 3, "2^18 3^-11"}, {0, 7, "2^-1 3^1"}, {7, 0, "2^2 3^-1"}, {11, 0, "2^8 3^-5"}, {0, 0, "1"}, {11, 11, "1"}} {
		if r, e := Between(x, c.from, c.to); sure(ratios.Text(r)) != c.want || e != api.OK {
			t.Errorf("Between(%d, %d) = %v, %d, want %s", c.from, c.to, r, e, c.want)
		}
	}
	for _, c := range [][2]int{{-1, 0}, {0, -1}, {12, 0}, {0, 12}, {12, 12}, {-1, -1}, {math.MinInt, 5}, {5, math.MaxInt}, {math.MaxInt, math.MinInt}} {
		if r, e := Between(x, c[0], c[1]); r != (api.Ratio{}) || e != api.ErrArg {
			t.Errorf("Between(%d, %d) = %v, %d", c[0], c[1], r, e)
		}
	}
}

// P5.6: the circle, calculated with ratios alone.
func TestCircle(t *testing.T) {
	two, pure := sure(ratios.Of(2, 1)), sure(ratios.Of(3, 2))
	for _, x := range tempers(rand.New(rand.NewPCG(5, 6)), 300) {
		comma := sure(ratios.Of(531441, 524288))
		if x.Syntonic {
			comma = sure(ratios.Of(81, 80))
		}
		fifths, notes := sure(Fifths(x)), sure(Notes(x))
		all := sure(ratios.Of(1, 1))
		for i, fifth := range fifths {
			all = sure(ratios.Mul(all, fifth))
			by := sure(ratios.Pow(comma, x.Parts[i].Num, x.Parts[i].Den))
			if i != x.Wolf && sure(ratios.Mul(fifth, by)) != pure {
				t.Errorf("%v: the fifth %d is %v", x, i, fifth)
			}
			next := sure(ratios.Mul(notes[7*i%12], fifth))
			octaves := sure(ratios.Div(next, notes[7*(i+1)%12]))
			if octaves.Den != 1 || octaves != (api.Ratio{Num: [6]int{octaves.Num[0]}, Den: 1}) {
				t.Errorf("%v: the fifth %d leads to %v", x, i, next)
			}
		}
		if all != sure(ratios.Pow(two, 7, 1)) {
			t.Errorf("%v: all fifths are %v", x, all)
		}
		for class, note := range notes {
			if r, octaves, e := ratios.Fold(note); r != note || octaves != 0 || e != api.OK {
				t.Errorf("%v: the note %d is %v", x, class, note)
			}
		}
	}
}

// P5.7: intervals that follow each other.
func TestSumsOfIntervals(t *testing.T) {
	source := rand.New(rand.NewPCG(5, 7))
	two := sure(ratios.Of(2, 1))
	var once, twice int
	for _, x := range tempers(source, 100) {
		a, c := source.IntN(12), source.IntN(12)
		ac := sure(Between(x, a, c))
		for b := range 12 {
			ab := sure(Between(x, a, b))
			switch sum := sure(ratios.Mul(ab, sure(Between(x, b, c)))); sum {
			case ac:
				once++
			case sure(ratios.Mul(ac, two)):
				twice++
			default:
				t.Errorf("%v: from %d over %d to %d it is %v, not %v", x, a, b, c, sum, ac)
			}
			if back := sure(Between(x, b, a)); a != b && sure(ratios.Mul(ab, back)) != two {
				t.Errorf("%v: from %d to %d it is %v, and back %v", x, a, b, ab, back)
			}
		}
	}
	if once == 0 || twice == 0 {
		t.Errorf("%d sums are the interval, and %d twice that", once, twice)
	}
}
