package pitch

import (
	"math"
	"math/rand/v2"
	"slices"
	"testing"

	"quintadena/api"
	"quintadena/temper"
)

// badStandards are those for which Check is ErrArg.
var badStandards = []api.PitchStandard{
	{},
	{A: 99999},
	{A: 1000001},
	{A: -440000},
	{A: math.MaxInt64},
	{A: math.MinInt64},
	{A: 440000, T0: -20001},
	{A: 440000, T0: 50001},
	{A: 440000, T: -20001},
	{A: 440000, T: 50001},
	{A: 440000, T0: math.MinInt64, T: math.MinInt64},
	{A: 440000, T0: math.MaxInt64, T: math.MaxInt64},
	{A: 440000, T: math.MaxInt64},
	{A: 440000, T0: -273150},
}

// badTempers are temperaments that are not valid, by the error of temper.Check.
func badTempers() map[api.Errno]api.Temper {
	unnamed, apart := named("equal"), named("equal")
	unnamed.Name = ""
	apart.Parts[3].Den = 23
	return map[api.Errno]api.Temper{api.ErrArg: {Name: "x"}, api.ErrForm: unnamed, api.ErrRange: apart}
}

// Check: the limits of a standard.
func TestCheck(t *testing.T) {
	for _, s := range badStandards {
		if e := Check(s); e != api.ErrArg {
			t.Errorf("Check(%v) = %d", s, e)
		}
	}
	for _, a := range []int64{100000, 440000, 1000000} {
		for _, t0 := range []int64{-20000, -1, 0, 50000} {
			for _, at := range []int64{-20000, 1, 0, 50000} {
				if e := Check(api.PitchStandard{A: a, T0: t0, T: at}); e != api.OK {
					t.Errorf("Check(%d, %d, %d) = %d", a, t0, at, e)
				}
			}
		}
	}
}

// calls returns what the functions with a standard and a temperament return: whether their results are zero, and the error; with another argument that is valid, or not.
func calls(s api.PitchStandard, x api.Temper, argument int) map[string]func() (bool, api.Errno) {
	iv := func(f func(api.PitchStandard, api.Temper, int) (api.Iv, api.Errno)) func() (bool, api.Errno) {
		return func() (bool, api.Errno) {
			v, e := f(s, x, argument)
			return v == api.Iv{}, e
		}
	}
	return map[string]func() (bool, api.Errno){
		"Freq":  iv(Freq),
		"Micro": iv(Micro),
		"Wave":  iv(Wave),
		"Table": func() (bool, api.Errno) { l, e := Table(s, x, argument, argument); return len(l) == 0, e },
		"Nearest": func() (bool, api.Errno) {
			note, off, e := Nearest(s, x, int64(argument))
			return note == 0 && off == 0, e
		},
	}
}

// The error of Check comes first, then that of temper.Check, then those of other arguments; nothing else is returned then.
func TestOrderOfErrors(t *testing.T) {
	look := func(s api.PitchStandard, x api.Temper, argument int, want api.Errno) {
		t.Helper()
		for name, call := range calls(s, x, argument) {
			if zero, e := call(); !zero || e != want {
				t.Errorf("%s of %v, %v, %d: %v, %d, want %d", name, s, x, argument, zero, e, want)
			}
		}
	}
	for _, argument := range []int{0, 69, -1, 1000000001} {
		for _, s := range badStandards {
			look(s, named("equal"), argument, api.ErrArg)
			for _, x := range badTempers() {
				look(s, x, argument, api.ErrArg)
			}
		}
		for want, x := range badTempers() {
			look(still(), x, argument, want)
		}
	}
	for _, s := range badStandards {
		if d, e := Drift(s); d != 0 || e != api.ErrArg {
			t.Errorf("Drift(%v) = %d, %d", s, d, e)
		}
	}
	for _, argument := range []int{-1, 1000000001, math.MinInt, math.MaxInt} {
		look(still(), named("equal"), argument, api.ErrArg)
	}
}

// P6.1: notes that there are, and those that there are not.
func TestNotes(t *testing.T) {
	for _, note := range []int{-1, 140, 141, -12, math.MinInt, math.MaxInt} {
		for name, call := range calls(still(), named("meantone"), note) {
			if zero, e := call(); name != "Nearest" && (!zero || e != api.ErrArg) {
				t.Errorf("%s of the note %d: %v, %d", name, note, zero, e)
			}
		}
	}
	for _, note := range []int{1, 139} {
		for name, call := range calls(still(), named("meantone"), note) {
			if zero, e := call(); zero || e != api.OK {
				t.Errorf("%s of %d: %v, %d", name, note, zero, e)
			}
		}
	}
}

// lookAtNote compares Freq, Micro and Wave with the reference (P6.1, P6.4).
func lookAtNote(t *testing.T, s api.PitchStandard, x api.Temper, note int) {
	t.Helper()
	f := hertz(s, x, note, s.T)
	if v, e := Freq(s, x, note); !f.isSpan(v) || e != api.OK {
		t.Errorf("Freq(%v, %v, %d) = %v, %d", s, x, note, v, e)
	}
	if v, e := Micro(s, x, note); !f.by(1000, 1, 1).isSpan(v) || e != api.OK {
		t.Errorf("Micro(%v, %v, %d) = %v, %d", s, x, note, v, e)
	}
	if v, e := Wave(s, x, note); !length(s, x, note, s.T0).isSpan(v) || e != api.OK {
		t.Errorf("Wave(%v, %v, %d) = %v, %d", s, x, note, v, e)
	}
}

// P6.1, P6.4: all notes of the standard temperaments.
func TestAllNotes(t *testing.T) {
	for i, name := range standards {
		s := api.PitchStandard{A: 415000 + 5000*int64(i), T0: 15000, T: 15000 + 2000*int64(i%3)}
		for note := range 140 {
			lookAtNote(t, s, named(name), note)
		}
	}
}

// P6.1, P6.4: notes of all kinds of temperaments, with standards up to their limits.
func TestSpans(t *testing.T) {
	source := rand.New(rand.NewPCG(6, 1))
	for _, x := range tempers(source, 60) {
		for range 10 {
			lookAtNote(t, anyStandard(source), x, int(between(source, 0, 139)))
		}
	}
	for _, x := range tempers(source, 0) {
		for _, note := range []int{0, 11, 138, 139} {
			lookAtNote(t, api.PitchStandard{A: 100000, T0: 50000, T: -20000}, x, note)
			lookAtNote(t, api.PitchStandard{A: 1000000, T0: -20000, T: 50000}, x, note)
		}
	}
}

// P6.1: known spans.
func TestKnownSpans(t *testing.T) {
	zero := api.PitchStandard{A: 331300}
	for _, c := range []struct {
		name string
		call func(api.PitchStandard, api.Temper, int) (api.Iv, api.Errno)
		s    api.PitchStandard
		x    string
		note int
		want api.Iv
	}{
		{"Freq", Freq, still(), "equal", 60, api.Iv{Lo: 261625, Hi: 261626}},
		{"Freq", Freq, still(), "equal", 81, api.Iv{Lo: 880000, Hi: 880000}},
		{"Freq", Freq, still(), "meantone", 60, api.Iv{Lo: 263181, Hi: 263182}},
		{"Freq", Freq, still(), "meantone", 73, api.Iv{Lo: 550000, Hi: 550000}},
		{"Freq", Freq, still(), "pythagorean", 76, api.Iv{Lo: 660000, Hi: 660000}},
		{"Freq", Freq, api.PitchStandard{A: 440000, T0: 15000, T: 20000}, "equal", 69, api.Iv{Lo: 443801, Hi: 443802}},
		{"Freq", Freq, api.PitchStandard{A: 440000, T0: 15000, T: 10000}, "equal", 69, api.Iv{Lo: 436165, Hi: 436166}},
		// 278640 / 263375 is the square of 36/35.
		{"Freq", Freq, api.PitchStandard{A: 350000, T0: -9775, T: 5490}, "equal", 69, api.Iv{Lo: 360000, Hi: 360000}},
		{"Freq", Freq, api.PitchStandard{A: 360000, T0: 5490, T: -9775}, "werckmeister", 57, api.Iv{Lo: 175000, Hi: 175000}},
		{"Micro", Micro, still(), "equal", 60, api.Iv{Lo: 261625565, Hi: 261625566}},
		{"Micro", Micro, still(), "equal", 45, api.Iv{Lo: 110000000, Hi: 110000000}},
		{"Wave", Wave, zero, "equal", 69, api.Iv{Lo: 1000000, Hi: 1000000}},
		{"Wave", Wave, zero, "young", 57, api.Iv{Lo: 2000000, Hi: 2000000}},
		{"Wave", Wave, api.PitchStandard{A: 331300, T: 50000}, "equal", 69, api.Iv{Lo: 1000000, Hi: 1000000}},
		{"Wave", Wave, api.PitchStandard{A: 440000}, "equal", 69, api.Iv{Lo: 752954, Hi: 752955}},
	} {
		if v, e := c.call(c.s, named(c.x), c.note); v != c.want || e != api.OK {
			t.Errorf("%s of %v, %s, %d = %v, %d, want %v", c.name, c.s, c.x, c.note, v, e, c.want)
		}
	}
}

// P6.2: tables of some notes, of one, and of all.
func TestTable(t *testing.T) {
	source := rand.New(rand.NewPCG(6, 2))
	for _, x := range tempers(source, 5) {
		s, low := anyStandard(source), source.IntN(140)
		high := low + source.IntN(min(140-low, 20))
		l, e := Table(s, x, low, high)
		if len(l) != high-low+1 || e != api.OK {
			t.Fatalf("Table(%v, %v, %d, %d) = %v, %d", s, x, low, high, l, e)
		}
		for i, v := range l {
			if want := sure(Freq(s, x, low+i)); v != want {
				t.Errorf("Table(%v, %v, %d, %d) has %v for the note %d, want %v", s, x, low, high, v, low+i, want)
			}
		}
	}
	for _, c := range []struct{ low, high, want int }{{0, 139, 140}, {0, 0, 1}, {139, 139, 1}, {69, 81, 13}} {
		l, e := Table(still(), named("young"), c.low, c.high)
		if len(l) != c.want || e != api.OK || l[0] != sure(Freq(still(), named("young"), c.low)) || l[len(l)-1] != sure(Freq(still(), named("young"), c.high)) {
			t.Errorf("Table(%d, %d) = %v, %d", c.low, c.high, l, e)
		}
	}
}

// P6.2: notes that a table can't have.
func TestBadTables(t *testing.T) {
	for _, c := range [][2]int{{-1, 69}, {69, 140}, {-1, 140}, {70, 69}, {139, 0}, {140, 140}, {-1, -1}, {140, 69}, {69, -1}, {math.MinInt, math.MaxInt}, {math.MaxInt, math.MinInt}, {math.MinInt, math.MinInt}} {
		if l, e := Table(still(), named("young"), c[0], c[1]); len(l) != 0 || e != api.ErrArg {
			t.Errorf("Table(%d, %d) = %v, %d", c[0], c[1], l, e)
		}
		for want, x := range badTempers() {
			if l, e := Table(still(), x, c[0], c[1]); len(l) != 0 || e != want {
				t.Errorf("Table(%v, %d, %d) = %v, %d", x, c[0], c[1], l, e)
			}
		}
	}
}

// P6.2: the speed of sound.
func TestSpeed(t *testing.T) {
	for temp := int64(-20000); temp <= 50000; temp += 50 {
		want := unit(2).by(331300000, 1, 1).by(273150+temp, 1, 2).by(273150, -1, 2)
		if v, e := Speed(temp); !want.isSpan(v) || e != api.OK {
			t.Errorf("Speed(%d) = %v, %d", temp, v, e)
		}
	}
	if v, e := Speed(0); v != (api.Iv{Lo: 331300000, Hi: 331300000}) || e != api.OK {
		t.Errorf("Speed(0) = %v, %d", v, e)
	}
	for _, temp := range []int64{-20001, 50001, -273150, math.MinInt64, math.MaxInt64} {
		if v, e := Speed(temp); v != (api.Iv{}) || e != api.ErrArg {
			t.Errorf("Speed(%d) = %v, %d", temp, v, e)
		}
	}
}

// P6.2: how much higher a pipe sounds when it is warmer.
func TestDrift(t *testing.T) {
	source := rand.New(rand.NewPCG(6, 3))
	for range 1000 {
		s := anyStandard(source)
		want := millicentsOf(unit(2).by(273150+s.T, 1, 2).by(273150+s.T0, -1, 2).logarithm())
		if d, e := Drift(s); d != want || e != api.OK {
			t.Errorf("Drift(%v) = %d, %d, want %d", s, d, e, want)
		}
	}
	for _, c := range []struct{ t0, t, want int64 }{{15000, 20000, 14891}, {15000, 15000, 0}, {-20000, -20000, 0}, {20000, 15000, -14892}, {-20000, 50000, 211326}, {50000, -20000, -211327}, {0, 1, 3}, {1, 0, -4}} {
		if d, e := Drift(api.PitchStandard{A: 440000, T0: c.t0, T: c.t}); d != c.want || e != api.OK {
			t.Errorf("Drift from %d to %d = %d, %d, want %d", c.t0, c.t, d, e, c.want)
		}
	}
}

// P6.8, R1, R2: any arguments are accepted; with an error, all other results are zero.
func TestAnyArguments(t *testing.T) {
	source := rand.New(rand.NewPCG(6, 4))
	number := func() int64 {
		l := []int64{0, 1, -1, 69, 139, 140, 100000, 1000000, 1000001, -20000, -273150, 50000, 1000000000, math.MaxInt64, math.MinInt64}
		if source.IntN(3) > 0 {
			return l[source.IntN(len(l))]
		}
		return int64(source.Uint64() >> source.IntN(64))
	}
	allowed := []api.Errno{api.OK, api.ErrArg, api.ErrForm, api.ErrRange}
	for range 2000 {
		s, x := anyStandard(source), anyTemper(source)
		if source.IntN(2) == 0 {
			s = api.PitchStandard{A: number(), T0: number(), T: number()}
		}
		if source.IntN(2) == 0 {
			x.Parts[source.IntN(12)] = api.CommaPart{Num: int(number()), Den: int(number())}
		}
		want := Check(s)
		if want == api.OK {
			want = temper.Check(x)
		}
		for name, call := range calls(s, x, int(number())) {
			zero, e := call()
			if !slices.Contains(allowed, e) || e != api.OK && !zero || want != api.OK && e != want {
				t.Errorf("%s of %v, %v: %v, %d", name, s, x, zero, e)
			}
		}
		if d, e := Drift(s); e != Check(s) || e != api.OK && d != 0 {
			t.Errorf("Drift(%v) = %d, %d", s, d, e)
		}
		if v, e := Speed(number()); e != api.OK && (v != api.Iv{} || e != api.ErrArg) {
			t.Errorf("Speed = %v, %d", v, e)
		}
	}
}

// P6.8, R3: a table is new memory.
func TestNewMemory(t *testing.T) {
	first := sure(Table(still(), named("young"), 0, 139))
	want := slices.Clone(first)
	second := sure(Table(still(), named("young"), 0, 139))
	for i := range first[:cap(first)] {
		first[:cap(first)][i] = api.Iv{Lo: -1, Hi: -1}
	}
	if !slices.Equal(second, want) || !slices.Equal(sure(Table(still(), named("young"), 0, 139)), want) {
		t.Error("Table returns memory that is not new")
	}
}
