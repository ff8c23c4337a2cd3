package pitch

import "quintadena/api"

const maxFrequency = 1000000000 // millihertz

// Nearest returns the note whose frequency is nearest to f millihertz, and how many millicents f is above it, rounded down.
func Nearest(s api.PitchStandard, t api.Temper, f int64) (note int, off int64, e api.Errno) {
	u, e := tune(s, t)
	if e != api.OK {
		return 0, 0, e
	}
	if f < 1 || f > maxFrequency {
		return 0, 0, api.ErrArg
	}
	note, above := u.nearest(f)
	return note, millicents(above.den, above.terms...), api.OK
}

// nearest returns the note whose frequency is nearest to f, and f divided by that frequency. Notes need not ascend within an octave, so all of them are looked at.
func (u tuning) nearest(f int64) (note int, above root) {
	var least root
	keep := func(n int, over root) {
		if away := outward(over); n == 0 || order(away, least) < 0 {
			note, above, least = n, over, away
		}
	}
	for n := range api.MaxSound + 1 {
		keep(n, quotient(whole(f), u.frequency(n)))
	}
	return note, above
}
