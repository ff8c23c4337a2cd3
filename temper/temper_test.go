package temper

import (
	"math"
	"math/rand/v2"
	"testing"

	"quintadena/api"
)

// change makes another temperament.
type change struct {
	name string
	make func(*api.Temper)
}

// part changes the part of a fifth.
func part(name string, i, num, den int) change {
	return change{name, func(t *api.Temper) { t.Parts[i] = api.CommaPart{Num: num, Den: den} }}
}

func wolf(name string, n int) change {
	return change{name, func(t *api.Temper) { t.Wolf = n }}
}

func called(s string) change {
	return change{"the name " + s, func(t *api.Temper) { t.Name = s }}
}

// quarter is the temperament that is changed: the Wolf is 8, and the other parts are 1/4.
func quarter() api.Temper {
	return tempered(true, 8, api.CommaPart{Num: 1, Den: 4})
}

// unfit returns changes for which Check is ErrArg.
func unfit() []change {
	return []change{
		wolf("the wolf -1", -1),
		wolf("the wolf 12", 12),
		wolf("the least wolf", math.MinInt),
		wolf("the greatest wolf", math.MaxInt),
		part("den 0", 0, 0, 0),
		part("den 0 with num 1", 11, 1, 0),
		part("den -1", 3, 1, -1),
		part("den -4", 3, -1, -4),
		part("den 25", 3, 1, 25),
		part("the least den", 3, 1, math.MinInt),
		part("the greatest den", 3, 1, math.MaxInt),
		part("the wolf's den 0", 8, 0, 0),
		part("the wolf's den 25", 8, 0, 25),
		part("the wolf's num 3", 8, 3, 1),
		part("3", 11, 3, 1),
		part("-3", 11, -3, 1),
		part("9/4", 11, 9, 4),
		part("-9/4", 11, -9, 4),
		part("49/24", 11, 49, 24),
		part("-49/24", 0, -49, 24),
		part("the least num", 0, math.MinInt, 4),
		part("the greatest num", 0, math.MaxInt, 4),
	}
}

// unformed returns changes for which Check is ErrForm.
func unformed() []change {
	return []change{
		called(""),
		called("abcdefghijklmnopq"),
		called("mean tone"),
		called("4comma"),
		called("mean\x00"),
		part("2/8", 0, 2, 8),
		part("-2/4", 5, -2, 4),
		part("0/2", 5, 0, 2),
		part("0/4", 11, 0, 4),
		part("48/24", 11, 48, 24),
		part("-8/4", 11, -8, 4),
		part("the wolf's part 1/4", 8, 1, 4),
		part("the wolf's part 1", 8, 1, 1),
		part("the wolf's part -2", 8, -2, 1),
		part("the wolf's part 0/4", 8, 0, 4),
		wolf("the wolf 7", 7),
		wolf("the wolf 0", 0),
	}
}

// withDens returns a change of the fifths from 9 on.
func withDens(name string, dens ...int) change {
	return change{name, func(t *api.Temper) {
		for i, den := range dens {
			t.Parts[(9+i)%12] = api.CommaPart{Num: 1, Den: den}
		}
	}}
}

// apart returns changes for which Check is ErrRange.
func apart() []change {
	return []change{
		withDens("the multiple 140", 7, 5),
		withDens("the multiple 132", 3, 11),
		withDens("the multiple 168", 24, 7),
		withDens("the multiple 240", 15, 16),
		withDens("the multiple 10868", 11, 13, 19),
		withDens("the multiple 29716", 17, 19, 23),
		withDens("the multiple of all denominators", 24, 23, 22, 21, 20, 19, 18, 17, 16, 13, 7),
	}
}

// valid returns changes for which Check is OK.
func valid() []change {
	return []change{
		withDens("the multiple 120", 24, 5),
		withDens("the multiple 120 of three", 3, 8, 10),
		withDens("the multiple 92", 23),
		withDens("the multiple 24, not the product", 24, 12, 8),
		part("2", 0, 2, 1),
		part("-2", 0, -2, 1),
		part("47/24", 11, 47, 24),
		part("-47/24", 11, -47, 24),
		called("a"),
		called("A_9"),
		called("abcdefghijklmnop"),
	}
}

// P5.1: what is wrong, and what is valid.
func TestCheck(t *testing.T) {
	if e := Check(quarter()); e != api.OK {
		t.Fatalf("Check of a quarter = %d", e)
	}
	for want, l := range map[api.Errno][]change{api.ErrArg: unfit(), api.ErrForm: unformed(), api.ErrRange: apart(), api.OK: valid()} {
		for _, c := range l {
			x := quarter()
			c.make(&x)
			if e := Check(x); e != want {
				t.Errorf("%s: Check = %d, want %d", c.name, e, want)
			}
		}
	}
	if e := Check(api.Temper{}); e != api.ErrArg {
		t.Errorf("Check of the zero value = %d", e)
	}
	for _, x := range tempers(rand.New(rand.NewPCG(5, 1)), 300) {
		if e := Check(x); e != api.OK {
			t.Errorf("Check(%v) = %d", x, e)
		}
	}
}

// P5.1: the multiple of two denominators, of all sizes.
func TestMultiple(t *testing.T) {
	for a := 1; a <= 24; a++ {
		for b := 1; b <= 24; b++ {
			for c := 1; c <= 24; c++ {
				x := tempered(false, 0, api.CommaPart{Num: 0, Den: 1})
				x.Parts[1], x.Parts[6], x.Parts[11] = api.CommaPart{Num: 1, Den: a}, api.CommaPart{Num: -1, Den: b}, api.CommaPart{Num: 1, Den: c}
				want := api.ErrRange
				for n := 1; n <= 120; n++ {
					if n%a == 0 && n%b == 0 && n%c == 0 {
						want = api.OK
					}
				}
				if e := Check(x); e != want {
					t.Errorf("Check with 1/%d, -1/%d, 1/%d = %d, want %d", a, b, c, e, want)
				}
			}
		}
	}
}

// P5.1: ErrArg comes before ErrForm, and both before ErrRange, wherever the reasons are.
func TestOrderOfCheck(t *testing.T) {
	look := func(want api.Errno, l ...change) {
		t.Helper()
		x, name := quarter(), ""
		for _, c := range l {
			c.make(&x)
			name += c.name + "; "
		}
		if e := Check(x); e != want {
			t.Errorf("%sCheck = %d, want %d", name, e, want)
		}
	}
	for _, a := range unfit() {
		for _, wide := range apart() {
			look(api.ErrArg, wide, a)
			look(api.ErrArg, wide, called("-"), part("0/5", 4, 0, 5), a)
		}
		look(api.ErrArg, part("0/5", 4, 0, 5), a)
		look(api.ErrArg, part("4/6", 10, 4, 6), a)
		look(api.ErrArg, called(""), a)
	}
	for _, a := range unformed() {
		for _, wide := range apart() {
			look(api.ErrForm, wide, a)
		}
	}
}

// calls returns what the functions with a temperament return: whether their results are zero, and the error; with other arguments that are valid, or not.
func calls(x api.Temper, argument int) map[string]func() (bool, api.Errno) {
	return map[string]func() (bool, api.Errno){
		"Fifths": func() (bool, api.Errno) { l, e := Fifths(x); return len(l) == 0, e },
		"Notes":  func() (bool, api.Errno) { l, e := Notes(x); return len(l) == 0, e },
		"Between": func() (bool, api.Errno) {
			r, e := Between(x, argument, argument)
			return r == api.Ratio{}, e
		},
		"Cents":  func() (bool, api.Errno) { l, e := Cents(x); return len(l) == 0, e },
		"Off":    func() (bool, api.Errno) { l, e := Off(x); return len(l) == 0, e },
		"Triad":  func() (bool, api.Errno) { a, b, e := Triad(x, argument); return a == 0 && b == 0, e },
		"Keys":   func() (bool, api.Errno) { l, e := Keys(x); return len(l) == 0, e },
		"Wolves": func() (bool, api.Errno) { l, e := Wolves(x, int64(argument)); return len(l) == 0, e },
		"Turn":   func() (bool, api.Errno) { y, e := Turn(x, argument); return y == api.Temper{}, e },
		"Text":   func() (bool, api.Errno) { s, e := Text(x); return s == "", e },
	}
}

// P5.1: the error of Check comes first in all functions, and nothing else is returned then.
func TestBadTempers(t *testing.T) {
	for want, l := range map[api.Errno][]change{api.ErrArg: unfit(), api.ErrForm: unformed(), api.ErrRange: apart()} {
		for _, c := range l {
			x := quarter()
			c.make(&x)
			for _, argument := range []int{0, 5, -1, 1200001} {
				for name, call := range calls(x, argument) {
					if zero, e := call(); !zero || e != want {
						t.Errorf("%s: %s with %d: %v, %d, want %d", c.name, name, argument, zero, e, want)
					}
				}
			}
		}
	}
}

// P5.4: Turn by all numbers of classes, and by others.
func TestTurn(t *testing.T) {
	source := rand.New(rand.NewPCG(5, 2))
	for _, x := range tempers(source, 100) {
		for by := range 12 {
			y, e := Turn(x, by)
			if e != api.OK || y.Name != x.Name || y.Syntonic != x.Syntonic || y.Wolf != (x.Wolf+7*by)%12 {
				t.Errorf("Turn(%v, %d) = %v, %d", x, by, y, e)
			}
			for i, p := range x.Parts {
				if y.Parts[(i+7*by)%12] != p {
					t.Errorf("Turn(%v, %d) = %v: fifth %d", x, by, y, i)
				}
			}
			if e := Check(y); e != api.OK {
				t.Errorf("Check(%v) = %d", y, e)
			}
		}
		for _, by := range []int{-1, 12, 13, -12, math.MinInt, math.MaxInt} {
			if y, e := Turn(x, by); y != (api.Temper{}) || e != api.ErrArg {
				t.Errorf("Turn by %d = %v, %d", by, y, e)
			}
		}
	}
	if y := sure(Turn(sure(Standard("meantone")), 2)); y.Wolf != 10 || y.Parts[8] != (api.CommaPart{Num: 1, Den: 4}) || y.Parts[10] != (api.CommaPart{Num: 0, Den: 1}) {
		t.Errorf("meantone, turned by 2: %v", y)
	}
	if y := sure(Turn(sure(Standard("kirnberger")), 1)); y.Wolf != 1 || y.Parts[7] != (api.CommaPart{Num: 1, Den: 4}) || y.Parts[11] != (api.CommaPart{Num: 0, Den: 1}) {
		t.Errorf("kirnberger, turned by 1: %v", y)
	}
}

// P5.8: the intervals are so many classes higher.
func TestIntervalsAreTurned(t *testing.T) {
	source := rand.New(rand.NewPCG(5, 3))
	for _, x := range tempers(source, 20) {
		for by := range 12 {
			y := sure(Turn(x, by))
			if back := sure(Turn(y, (12-by)%12)); back != x {
				t.Errorf("%v, turned by %d and back: %v", x, by, back)
			}
			a := source.IntN(12)
			for b := range 12 {
				was, is := sure(Between(x, a, b)), sure(Between(y, (a+by)%12, (b+by)%12))
				if was != is {
					t.Errorf("%v, turned by %d: from %d to %d was %v, is %v", x, by, a, b, was, is)
				}
			}
		}
	}
}
