package pitch

import (
	"math/rand/v2"
	"testing"

	"quintadena/api"
)

// P6.5: the note 69 at T = T0 has exactly A.
func TestStandardNote(t *testing.T) {
	source := rand.New(rand.NewPCG(6, 7))
	for _, x := range tempers(source, 50) {
		s := anyStandard(source)
		s.T = s.T0
		if v, e := Freq(s, x, 69); v != (api.Iv{Lo: s.A, Hi: s.A}) || e != api.OK {
			t.Errorf("Freq(%v, %v, 69) = %v, %d", s, x, v, e)
		}
		if v, e := Micro(s, x, 69); v != (api.Iv{Lo: 1000 * s.A, Hi: 1000 * s.A}) || e != api.OK {
			t.Errorf("Micro(%v, %v, 69) = %v, %d", s, x, v, e)
		}
	}
}

// isTwice reports whether b may be the span of twice the number whose span is a.
func isTwice(a, b api.Iv) bool {
	if a.Lo == a.Hi {
		return b == api.Iv{Lo: 2 * a.Lo, Hi: 2 * a.Lo}
	}
	return b.Lo >= 2*a.Lo && b.Hi <= 2*a.Hi && b.Lo < 2*a.Hi && b.Hi > 2*a.Lo
}

// P6.5: an octave is twice the frequency, and half of the wavelength.
func TestOctaves(t *testing.T) {
	source := rand.New(rand.NewPCG(6, 8))
	for _, x := range tempers(source, 20) {
		s := anyStandard(source)
		for range 10 {
			note := source.IntN(128)
			if low, high := sure(Freq(s, x, note)), sure(Freq(s, x, note+12)); !isTwice(low, high) {
				t.Errorf("%v, %v: the note %d has %v, an octave above it is %v", s, x, note, low, high)
			}
			if low, high := sure(Micro(s, x, note)), sure(Micro(s, x, note+12)); !isTwice(low, high) {
				t.Errorf("%v, %v: the note %d has %v microhertz, an octave above it is %v", s, x, note, low, high)
			}
			if low, high := sure(Wave(s, x, note)), sure(Wave(s, x, note+12)); !isTwice(high, low) {
				t.Errorf("%v, %v: the note %d is %v long, an octave above it %v", s, x, note, low, high)
			}
		}
	}
}

// P6.6: at T = T0, the product of wavelength and frequency is the speed.
func TestProducts(t *testing.T) {
	source := rand.New(rand.NewPCG(6, 9))
	for _, x := range tempers(source, 20) {
		s := anyStandard(source)
		s.T = s.T0
		speed := sure(Speed(s.T0))
		for range 10 {
			note := source.IntN(140)
			// Micrometres times microhertz are a millionth of micrometres per second.
			wave, f := sure(Wave(s, x, note)), sure(Micro(s, x, note))
			if wave.Lo*f.Lo > 1000000*speed.Hi || wave.Hi*f.Hi < 1000000*speed.Lo {
				t.Errorf("%v, %v, %d: %v times %v is not %v", s, x, note, wave, f, speed)
			}
		}
	}
}

// The definition of the wavelength: at each other temperature it is the same, with the frequency and the speed there.
func TestWaveAtOtherTemperatures(t *testing.T) {
	source := rand.New(rand.NewPCG(6, 10))
	for _, x := range tempers(source, 5) {
		s, note := anyStandard(source), source.IntN(140)
		v := sure(Wave(s, x, note))
		for range 5 {
			s.T = between(source, -20000, 50000)
			if !length(s, x, note, s.T).isSpan(v) {
				t.Errorf("%v, %v: the note %d is %v long at T0", s, x, note, v)
			}
			if other := sure(Wave(s, x, note)); other != v {
				t.Errorf("%v, %v: the note %d is %v long, and %v", s, x, note, v, other)
			}
		}
	}
}

// P6.6: Drift rises with T, by 2 millicents and more each time, as a thousandth of a degree is at least 2.6.
func TestDriftRises(t *testing.T) {
	for _, t0 := range []int64{-20000, 15000, 50000} {
		for _, from := range []int64{-20000, -100, 14900, 49800} {
			last := sure(Drift(api.PitchStandard{A: 440000, T0: t0, T: from}))
			for at := from + 1; at <= from+200; at++ {
				d := sure(Drift(api.PitchStandard{A: 440000, T0: t0, T: at}))
				if d < last+2 {
					t.Errorf("from %d: Drift at %d is %d, and %d before", t0, at, d, last)
				}
				last = d
			}
		}
	}
}
