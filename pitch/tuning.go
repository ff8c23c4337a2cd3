package pitch

import (
	"quintadena/api"
	"quintadena/ratios"
	"quintadena/temper"
)

const (
	classes  = 12
	noteOfA  = 69
	freezing = 273150 // 0 degrees, in thousandths of a kelvin
)

// tuning is a standard, and the notes of a temperament by class, both valid.
type tuning struct {
	standard api.PitchStandard
	notes    []api.Ratio
}

// tune returns the tuning, or the error of bad arguments.
func tune(s api.PitchStandard, t api.Temper) (tuning, api.Errno) {
	if e := Check(s); e != api.OK {
		return tuning{}, e
	}
	notes, e := temper.Notes(t)
	return tuning{s, notes}, e
}

// frequency returns that of a note, in millihertz.
func (u tuning) frequency(note int) root {
	return product(u.atT0(note), faster(u.standard.T0, u.standard.T))
}

// wave returns the wavelength of a note, as a part of how far sound comes in a thousand seconds at 0 degrees.
func (u tuning) wave(note int) root {
	return quotient(faster(0, u.standard.T0), u.atT0(note))
}

// atT0 returns the frequency of a note at the temperature T0, in millihertz.
func (u tuning) atT0(note int) root {
	r, _ := ratios.Div(u.notes[note%classes], u.notes[noteOfA%classes])
	// The exponents are Num / Den, so Den is an octave.
	r.Num[0] += (note/classes - noteOfA/classes) * r.Den
	terms, den, _ := ratios.Terms(r)
	return product(whole(u.standard.A), root{terms, den})
}

// faster returns how many times as fast sound is at the temperature to as at the temperature from.
func faster(from, to int64) root {
	return root{[]api.Term{{N: freezing + to, Num: 1}, {N: freezing + from, Num: -1}}, 2}
}
