package pitch

import (
	"quintadena/api"
	"quintadena/ratios"
)

const octave = 1200000 // millicents

// root is the den-th root of the product of terms.
type root struct {
	terms []api.Term
	den   int64
}

// The functions of ratios that are called in this package have no errors. In a ratio of two notes, no exponent is above 460 (see temper), and none in the octaves to the note 69 is above 6; the denominators are up to MaxTemperDen (120). So a frequency has up to 6 terms with exponents up to 112000, and is a root of at most 240; two of them, compared, have up to 14 terms with exponents up to 3 * 10^7. Frequencies are from 1383 to 1.5 * 10^8 millihertz, wavelengths are up to 2.4 * 10^8 micrometres, and Nearest is off by less than 20 octaves.

func whole(n int64) root {
	return root{[]api.Term{{N: n, Num: 1}}, 1}
}

func product(l ...root) root {
	p := root{den: 1}
	for _, r := range l {
		p.den *= r.den
	}
	for _, r := range l {
		for _, t := range r.terms {
			p.terms = append(p.terms, api.Term{N: t.N, Num: t.Num * (p.den / r.den)})
		}
	}
	return p
}

func quotient(a, b root) root {
	return product(a, inverse(b))
}

func inverse(a root) root {
	var terms []api.Term
	for _, t := range a.terms {
		terms = append(terms, api.Term{N: t.N, Num: -t.Num})
	}
	return root{terms, a.den}
}

// outward returns a or its inverse, whichever is at least 1.
func outward(a root) root {
	if order(a, whole(1)) < 0 {
		return inverse(a)
	}
	return a
}

// order returns -1, 0 or 1, if a is less than b, equal, greater.
func order(a, b root) int {
	sign, _ := ratios.Sign(quotient(a, b).terms)
	return sign
}

// span returns the span of scale times the den-th root of the product of l.
func span(scale, den int64, l ...api.Term) api.Iv {
	k, exact, _ := ratios.Power(scale, l, den)
	if exact {
		return api.Iv{Lo: k, Hi: k}
	}
	return api.Iv{Lo: k, Hi: k + 1}
}

// millicents returns how far the den-th root of the product of l is above 1, rounded down.
func millicents(den int64, l ...api.Term) int64 {
	m, _, _ := ratios.Floor(l, den, octave)
	return m
}
