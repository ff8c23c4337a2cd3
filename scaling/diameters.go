package scaling

import (
	"quintadena/api"
	"quintadena/ratios"
)

// diameter returns the span of the diameter at a note that the scale has.
func diameter(s api.SlScale, note int) api.Iv {
	num, den := exponent(s.Bends, note)
	// No error is possible: den is up to MaxSlHalf^3 (262144), num up to 139/8 times that, and what shrinks is from 1 to MaxSlDiameter.
	k, exact, _ := ratios.Power(s.Diameter-s.Constant, []api.Term{{N: 2, Num: -num}}, den)
	d := api.Iv{Lo: s.Constant + k, Hi: s.Constant + k}
	if !exact {
		d.Hi++
	}
	return d
}

// exponent returns how many times the diameter has halved at a note that the bends reach, as num / den.
func exponent(l []api.SlBend, note int) (num, den int64) {
	den = 1
bends:
	for i, b := range l {
		end := note
		switch {
		case b.Note >= note:
			break bends
		case i+1 < len(l):
			end = min(note, l[i+1].Note)
		}
		half := int64(b.Half)
		num, den = num*half+int64(end-b.Note)*den, den*half
	}
	return num, den
}
