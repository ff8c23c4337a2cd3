package lengths

import (
	"math"
	"math/rand/v2"
	"slices"
	"testing"

	"quintadena/api"
	"quintadena/scaling"
)

// badFrequencies are intervals that are no frequencies.
func badFrequencies() []api.Iv {
	return []api.Iv{{}, iv(999, 999), iv(999, 440000), iv(440000, 20000001), iv(20000001, 20000001), iv(440001, 440000), iv(20000000, 1000), iv(-440000, 440000), iv(0, 440000), iv(440000, 0), iv(1000, math.MaxInt64), iv(math.MinInt64, 20000000), iv(math.MinInt64, math.MaxInt64), iv(math.MaxInt64, math.MinInt64), iv(math.MaxInt64, math.MaxInt64), iv(math.MinInt64, math.MinInt64), iv(1<<62+1, 1<<62+1)}
}

// badLengths are intervals that are no lengths.
func badLengths() []api.Iv {
	return []api.Iv{{}, iv(0, 1), iv(0, 289270), iv(-1, 289270), iv(289270, 12000001), iv(12000001, 12000001), iv(289271, 289270), iv(12000000, 1), iv(289270, 0), iv(1, math.MaxInt64), iv(math.MinInt64, 12000000), iv(math.MinInt64, math.MaxInt64), iv(math.MaxInt64, math.MinInt64), iv(math.MaxInt64, math.MaxInt64), iv(math.MinInt64, math.MinInt64), iv(1<<62+1, 1<<62+1)}
}

func badTemps() []int64 {
	return []int64{-20001, 50001, -273150, -273151, math.MinInt64, math.MaxInt64}
}

func wantError(t *testing.T, name string, v api.Iv, e, want api.Errno) {
	t.Helper()
	if v != (api.Iv{}) || e != want {
		t.Errorf("%s: %v, %d, want %d", name, v, e, want)
	}
}

// P8.1 to P8.3: a pipe that is not valid is an error, whatever the others are.
func TestBadBodies(t *testing.T) {
	for _, b := range badBodies() {
		if mouth, end, e := Correction(b); mouth != (api.Iv{}) || end != (api.Iv{}) || e != api.ErrArg {
			t.Errorf("Correction(%v) = %v, %v, %d", b, mouth, end, e)
		}
		for _, f := range append(badFrequencies(), iv(440000, 440000), iv(1000, 1000)) {
			for _, temp := range append(badTemps(), 0) {
				v, e := Length(b, f, temp)
				wantError(t, "Length", v, e, api.ErrArg)
				v, e = Slide(b, f, temp, 0)
				wantError(t, "Slide", v, e, api.ErrArg)
				v, e = Slide(b, f, 0, temp)
				wantError(t, "Slide", v, e, api.ErrArg)
			}
		}
		for _, l := range append(badLengths(), iv(289270, 289270), iv(1, 1)) {
			for _, temp := range append(badTemps(), 0) {
				v, e := Pitch(b, l, temp)
				wantError(t, "Pitch", v, e, api.ErrArg)
			}
		}
	}
}

// P8.2: intervals and temperatures that are not valid are ErrArg, also where the result would be ErrRange.
func TestBadArguments(t *testing.T) {
	for _, b := range []api.BdBody{open(), stopped(), cone(20000)} {
		for _, f := range badFrequencies() {
			for _, temp := range append(badTemps(), 0, -20000, 50000) {
				v, e := Length(b, f, temp)
				wantError(t, "Length", v, e, api.ErrArg)
			}
		}
		for _, l := range badLengths() {
			for _, temp := range append(badTemps(), 0, -20000, 50000) {
				v, e := Pitch(b, l, temp)
				wantError(t, "Pitch", v, e, api.ErrArg)
			}
		}
		for _, temp := range badTemps() {
			for _, f := range []api.Iv{iv(440000, 440000), iv(1000, 1000), iv(20000000, 20000000)} {
				v, e := Length(b, f, temp)
				wantError(t, "Length", v, e, api.ErrArg)
			}
			for _, l := range []api.Iv{iv(289270, 289270), iv(1, 1), iv(1, 12000000)} {
				v, e := Pitch(b, l, temp)
				wantError(t, "Pitch", v, e, api.ErrArg)
			}
		}
	}
}

// P8.2: the limits of arguments are valid.
func TestLimits(t *testing.T) {
	// No pipe is short enough for 1000 millihertz, but that is ErrRange, and not ErrArg.
	small := api.BdBody{Kind: api.BdOpen, Bottom: 1000, Top: 1000, Mouth: 4000, Cut: 4000}
	for _, temp := range []int64{-20000, 50000} {
		if v, e := Length(small, iv(20000000, 20000000), temp); v.Lo < 7000 || v.Hi > 9000 || e != api.OK {
			t.Errorf("Length(%v) for 20000000 at %d = %v, %d", small, temp, v, e)
		}
		v, e := Length(small, iv(1000, 1000), temp)
		wantError(t, "Length", v, e, api.ErrRange)
		if v, e := Pitch(open(), iv(1, 1), temp); v.Lo < 1800000 || v.Hi > 2100000 || e != api.OK {
			t.Errorf("Pitch of 1 at %d = %v, %d", temp, v, e)
		}
		if v, e := Pitch(open(), iv(12000000, 12000000), temp); v.Lo < 13000 || v.Hi > 15000 || e != api.OK {
			t.Errorf("Pitch of 12000000 at %d = %v, %d", temp, v, e)
		}
		if v, e := Slide(small, iv(20000000, 20000000), temp, 0); e != api.OK {
			t.Errorf("Slide from %d = %v, %d", temp, v, e)
		}
	}
}

// P8.3: the error at the temperature low comes before that at high.
func TestOrderOfSlide(t *testing.T) {
	for _, temp := range badTemps() {
		for _, f := range []api.Iv{iv(1000, 1000), iv(20000000, 20000000), iv(1000, 20000000)} {
			v, e := Slide(open(), f, 0, temp)
			wantError(t, "Slide", v, e, api.ErrRange)
			v, e = Slide(open(), f, temp, 0)
			wantError(t, "Slide", v, e, api.ErrArg)
		}
		v, e := Slide(open(), iv(440000, 440000), 0, temp)
		wantError(t, "Slide", v, e, api.ErrArg)
		v, e = Slide(open(), iv(440000, 440000), temp, 0)
		wantError(t, "Slide", v, e, api.ErrArg)
		v, e = Slide(open(), iv(440000, 440000), temp, temp)
		wantError(t, "Slide", v, e, api.ErrArg)
	}
	for _, f := range badFrequencies() {
		v, e := Slide(open(), f, 0, 20000)
		wantError(t, "Slide", v, e, api.ErrArg)
	}
}

// P8.4: the error of scaling.Mouth comes first, then that of the kind, then that of the pipe.
func TestOrderOfBody(t *testing.T) {
	long, bad := principal(), principal()
	long.Bends = make([]api.SlBend, 4)
	bad.MouthNum = 4
	kinds := []int{0, -1, 4, math.MinInt, math.MaxInt}
	look := func(s api.SlScale, note, kind int, want api.Errno) {
		t.Helper()
		if b, e := Body(s, note, kind); b != (api.BdBody{}) || e != want {
			t.Errorf("Body(%v, %d, %d) = %v, %d, want %d", s, note, kind, b, e, want)
		}
	}
	for _, kind := range append(kinds, api.BdOpen, api.BdStopped, api.BdCone) {
		for _, note := range []int{35, 36, 140, -1, math.MinInt, math.MaxInt} {
			look(long, note, kind, api.ErrLong)
			look(bad, note, kind, api.ErrArg)
			look(api.SlScale{}, note, kind, api.ErrArg)
			if note != 36 {
				look(principal(), note, kind, api.ErrArg)
			}
		}
	}
	for _, kind := range kinds {
		look(principal(), 36, kind, api.ErrArg)
		look(first(1000), 60, kind, api.ErrArg)
	}
	for kind := api.BdOpen; kind <= api.BdCone; kind++ {
		look(first(1000), 60, kind, api.ErrRange)
	}
}

// anyNumber returns a number of any size; often one that is a limit somewhere.
func anyNumber(source *rand.Rand) int64 {
	l := []int64{0, 1, -1, 2, 3, 4, 60, 999, 1000, 1001, 4000, -20000, 50000, 440000, 500000, 500001, 2000000, 12000000, 12000001, 20000000, 20000001, 1 << 62, 1<<62 + 1, -1 << 62, math.MaxInt64, math.MinInt64}
	if source.IntN(3) > 0 {
		return l[source.IntN(len(l))]
	}
	return int64(source.Uint64() >> source.IntN(64))
}

// R1, R2: any arguments are accepted; with an error, all other results are zero.
func TestAnyArguments(t *testing.T) {
	source := rand.New(rand.NewPCG(8, 9))
	n := func() int64 { return anyNumber(source) }
	look := func(name string, b api.BdBody, v api.Iv, e api.Errno) {
		t.Helper()
		if e == api.OK && (v.Lo < 1 || v.Hi < v.Lo) || e != api.OK && v != (api.Iv{}) || !slices.Contains([]api.Errno{api.OK, api.ErrArg, api.ErrRange}, e) || Check(b) != api.OK && e != Check(b) {
			t.Errorf("%s of %v: %v, %d", name, b, v, e)
		}
	}
	for range 5000 {
		b := anyBody(source)
		for _, p := range []*int64{&b.Bottom, &b.Top, &b.Mouth, &b.Cut} {
			if source.IntN(6) == 0 {
				*p = n()
			}
		}
		if source.IntN(6) == 0 {
			b.Kind = int(n())
		}
		v, e := Length(b, iv(n(), n()), n())
		look("Length", b, v, e)
		v, e = Pitch(b, iv(n(), n()), n())
		look("Pitch", b, v, e)
		v, e = Slide(b, iv(n(), n()), n(), n())
		look("Slide", b, v, e)
		if mouth, end, e := Correction(b); e != Check(b) || e != api.OK && (mouth != api.Iv{} || end != api.Iv{}) {
			t.Errorf("Correction(%v) = %v, %v, %d", b, mouth, end, e)
		}
		s, note := anyScale(source), int(n())
		s.Diameter, s.CutNum = n(), n()
		_, _, first := scaling.Mouth(s, note)
		if b, e := Body(s, note, int(n())); e != api.OK && b != (api.BdBody{}) || first != api.OK && e != first {
			t.Errorf("Body(%v, %d) = %v, %d", s, note, b, e)
		}
	}
}

// R3, R6: the bends of an argument are not changed, nor those that lie behind them, and results are the same again.
func TestArgumentsStay(t *testing.T) {
	all := []api.SlBend{{Note: 36, Half: 16}, {Note: 60, Half: 20}, {Note: 70, Half: 30}}
	want := slices.Clone(all)
	s := principal()
	s.Bends = all[:2]
	b := sure(Body(s, 50, api.BdCone))
	if again := sure(Body(s, 50, api.BdCone)); again != b || !slices.Equal(all, want) {
		t.Errorf("%v, then %v; the bends are %v", b, again, all)
	}
}
