package pitch

import (
	"math"
	"math/big"
	"math/rand/v2"
	"testing"

	"quintadena/api"
)

// wantNearest compares Nearest with what it must return.
func wantNearest(t *testing.T, s api.PitchStandard, x api.Temper, f int64, note int, off int64) {
	t.Helper()
	if gotNote, gotOff, e := Nearest(s, x, f); gotNote != note || gotOff != off || e != api.OK {
		t.Errorf("Nearest(%v, %v, %d) = %d, %d, %d, want %d, %d", s, x, f, gotNote, gotOff, e, note, off)
	}
}

// P6.3: known notes, the limits, and what is beyond them.
func TestKnownNearest(t *testing.T) {
	for _, c := range []struct {
		f    int64
		note int
		off  int64
	}{
		{450000, 69, 38905},
		{452893, 70, -50000},
		{452892, 69, 49996},
		{440000, 69, 0},
		{439999, 69, -4},
		{440001, 69, 3},
		{880000, 81, 0},
		{1, 0, -15596573},
		{1000000000, 139, 6380250},
	} {
		wantNearest(t, still(), named("equal"), c.f, c.note, c.off)
	}
	for _, f := range []int64{0, -1, -440000, 1000000001, math.MinInt64, math.MaxInt64} {
		if note, off, e := Nearest(still(), named("equal"), f); note != 0 || off != 0 || e != api.ErrArg {
			t.Errorf("Nearest of %d = %d, %d, %d", f, note, off, e)
		}
	}
}

// middle returns about the geometric mean of two frequencies, of which these are the logarithms.
func middle(a, b *big.Int) int64 {
	sum := new(big.Int).Add(a, b)
	half := new(big.Float).SetInt(sum.Rsh(sum, 1))
	l, _ := half.SetMantExp(half, -places).Float64()
	return int64(math.Exp2(l))
}

// P6.3: the nearest notes of frequencies of all sizes, and of those between two notes.
func TestNearest(t *testing.T) {
	source := rand.New(rand.NewPCG(6, 5))
	for _, x := range tempers(source, 40) {
		s := anyStandard(source)
		l := logarithms(s, x)
		fs := []int64{1, 1000000000}
		for range 10 {
			fs = append(fs, anyFrequency(source))
			a := source.IntN(139)
			m := middle(l[a], l[a+1])
			fs = append(fs, m-1, m, m+1, m+2)
		}
		for _, f := range fs {
			note, off := nearestOf(l, f)
			wantNearest(t, s, x, f, note, off)
		}
	}
}

// tie is a frequency that is between two notes exactly.
type tie struct {
	s   api.PitchStandard
	low int
	f   int64
}

// rootOf returns the square root of x, if that is a fraction.
func rootOf(x *big.Rat) (*big.Rat, bool) {
	up, down := new(big.Int).Sqrt(x.Num()), new(big.Int).Sqrt(x.Denom())
	r := new(big.Rat).SetFrac(up, down)
	return r, new(big.Rat).Mul(r, r).Cmp(x) == 0
}

// fractions returns by how much the notes are above the note 69, in a temperament whose parts are whole.
func fractions(x api.Temper) []*big.Rat {
	var l []*big.Rat
	for note := range 140 {
		f := hertz(api.PitchStandard{A: 1}, x, note, 0)
		r, _ := rootOf(new(big.Rat).SetFrac(f.up, f.down))
		l = append(l, r)
	}
	return l
}

// ties returns what is between two notes exactly, in a temperament whose parts are whole. Two semitones have no such middle at rest, as 3 and 6 are no squares, but at other temperatures they do.
func ties(x api.Temper) []tie {
	var l []tie
	notes := fractions(x)
	for _, temps := range [][2]int64{{0, 0}, {1250, -4350}, {6850, 1250}, {6850, -4350}} {
		warm := big.NewRat(273150+temps[1], 273150+temps[0])
		for a := 48; a < 84; a++ {
			for b := a + 1; b < 84; b++ {
				square := new(big.Rat).Mul(notes[a], notes[b])
				r, is := rootOf(square.Mul(square, warm))
				if !is || r.Denom().BitLen() > 19 {
					continue
				}
				down := r.Denom().Int64()
				standard := (440000/down + 1) * down
				if standard <= 1000000 {
					l = append(l, tie{api.PitchStandard{A: standard, T0: temps[0], T: temps[1]}, a, standard / down * r.Num().Int64()})
				}
			}
		}
	}
	return l
}

// P6.3: of two notes that are as near, the lowest one, whichever frequency is the greater.
func TestTies(t *testing.T) {
	pure := func(i int) api.CommaPart { return api.CommaPart{Num: i, Den: 1} }
	var above, below int
	for _, x := range []api.Temper{named("pythagorean"), withParts(false, 8, pure(1), pure(0)), withParts(false, 11, pure(1)), withParts(false, 11, pure(1), pure(1), pure(1), pure(1), pure(1), pure(1), pure(0), pure(0), pure(0), pure(0), pure(0), pure(0)), withParts(true, 3, pure(-1))} {
		for _, c := range ties(x) {
			note, off := nearestOf(logarithms(c.s, x), c.f)
			wantNearest(t, c.s, x, c.f, note, off)
			if note == c.low && off > 0 {
				below++
			}
			if note == c.low && off < 0 {
				above++
			}
		}
	}
	if above == 0 || below == 0 {
		t.Errorf("of the lowest notes that are as near as others, %d are above, and %d are below", above, below)
	}
	// 64/63 is the middle of 1 and 256/243, times the root of 48/49.
	s := api.PitchStandard{A: 441000, T0: 1250, T: -4350}
	wantNearest(t, s, named("pythagorean"), 448000, 69, 45112)
	wantNearest(t, s, named("pythagorean"), 448001, 70, -45109)
	wantNearest(t, s, named("pythagorean"), 447999, 69, 45108)
}

// P6.7: the note that is nearest to a frequency of Freq is off by no more than rounding.
func TestNearestOfFreq(t *testing.T) {
	source := rand.New(rand.NewPCG(6, 6))
	for _, x := range tempers(source, 20) {
		s := anyStandard(source)
		for range 5 {
			n := source.IntN(140)
			v := sure(Freq(s, x, n))
			most := millicentsOf(unit(1).by(v.Hi, 1, 1).by(v.Lo, -1, 1).logarithm()) + 1
			for _, f := range []int64{v.Lo, v.Hi} {
				note, off, e := Nearest(s, x, f)
				if off > most || off < -most || e != api.OK {
					t.Errorf("Nearest(%v, %v, %d) = %d, %d, %d, but %d has %v", s, x, f, note, off, e, n, v)
				}
			}
		}
	}
	for _, name := range standards {
		for n := range 140 {
			note, _, e := Nearest(still(), named(name), sure(Freq(still(), named(name), n)).Lo)
			if note != n || e != api.OK {
				t.Errorf("%s: Nearest of the frequency of %d = %d, %d", name, n, note, e)
			}
		}
	}
}
