package pitch

import (
	"math/big"
	"math/rand/v2"
	"testing"

	"quintadena/api"
	"quintadena/temper"
)

// The reference follows the definitions of the chapter word by word, with whole numbers of math/big, as P6.4 states it; the notes are those of layer 5.

// exact is the n-th root of up / down.
type exact struct {
	up, down *big.Int
	n        int
}

// unit returns 1, from which others are made that are n-th roots.
func unit(n int) exact {
	return exact{big.NewInt(1), big.NewInt(1), n}
}

// by returns x times base to the power of num / den, where x.n is a multiple of den.
func (x exact) by(base int64, num, den int) exact {
	exponent := num * (x.n / den)
	power := new(big.Int).Exp(big.NewInt(base), big.NewInt(int64(max(exponent, -exponent))), nil)
	if exponent < 0 {
		return exact{x.up, new(big.Int).Mul(x.down, power), x.n}
	}
	return exact{new(big.Int).Mul(x.up, power), x.down, x.n}
}

// over returns 1 / x.
func (x exact) over() exact {
	return exact{x.down, x.up, x.n}
}

// order returns the sign of k - x.
func (x exact) order(k int64) int {
	power := new(big.Int).Exp(big.NewInt(k), big.NewInt(int64(x.n)), nil)
	return power.Mul(power, x.down).Cmp(x.up)
}

// isSpan reports whether v is the span of x.
func (x exact) isSpan(v api.Iv) bool {
	if v.Lo == v.Hi {
		return x.order(v.Lo) == 0
	}
	return v.Hi == v.Lo+1 && x.order(v.Lo) < 0 && x.order(v.Hi) > 0
}

// multiple returns the least number that a and b divide.
func multiple(a, b int) int {
	m := a
	for m%b != 0 {
		m += a
	}
	return m
}

// hertz returns the frequency of a note in millihertz, at the temperature at.
func hertz(s api.PitchStandard, t api.Temper, note int, at int64) exact {
	notes := sure(temper.Notes(t))
	class, a := notes[note%12], notes[9]
	x := unit(2*multiple(class.Den, a.Den)).by(s.A, 1, 1).by(2, note/12-5, 1)
	for i, prime := range []int64{2, 3, 5, 7, 11, 13} {
		x = x.by(prime, class.Num[i], class.Den).by(prime, -a.Num[i], a.Den)
	}
	return x.by(273150+at, 1, 2).by(273150+s.T0, -1, 2)
}

// length returns the wavelength of a note in micrometres, at the temperature at.
func length(s api.PitchStandard, t api.Temper, note int, at int64) exact {
	// A frequency in millihertz is a thousandth of it in hertz.
	return hertz(s, t, note, at).over().by(1000, 1, 1).by(331300000, 1, 1).by(273150+at, 1, 2).by(273150, -1, 2)
}

const places = 120

// logarithm returns that of x to the base 2, times 2^places; it is off by less than 2.
func (x exact) logarithm() *big.Int {
	const precision = 4 * places
	up, down := new(big.Float).SetPrec(precision).SetInt(x.up), new(big.Float).SetPrec(precision).SetInt(x.down)
	// From 1/2 to below 1, so its logarithm is from -1 to below 0.
	mantissa := new(big.Float).SetPrec(precision).Quo(up, down)
	sum := big.NewInt(int64(mantissa.MantExp(mantissa)))
	for range places + 10 {
		mantissa.Mul(mantissa, mantissa)
		sum.Lsh(sum, 1)
		sum.Add(sum, big.NewInt(int64(mantissa.MantExp(mantissa))))
	}
	sum.Rsh(sum, 10)
	return sum.Div(sum, big.NewInt(int64(x.n)))
}

// same reports whether two logarithms are so near that the numbers must be the same.
func same(a, b *big.Int) bool {
	return new(big.Int).Sub(a, b).BitLen() < places/4
}

// millicentsOf returns the logarithm l in millicents, rounded down; what is as near to a whole number as makes no difference is that.
func millicentsOf(l *big.Int) int64 {
	one := new(big.Int).Lsh(big.NewInt(1), places)
	m := new(big.Int).Mul(l, big.NewInt(1200000))
	m.Add(m, new(big.Int).Lsh(big.NewInt(1), places/2))
	return m.Div(m, one).Int64()
}

// logarithms returns those of the frequencies of all notes.
func logarithms(s api.PitchStandard, t api.Temper) []*big.Int {
	var l []*big.Int
	for class := range 12 {
		l = append(l, hertz(s, t, class, s.T).logarithm())
	}
	for note := 12; note <= 139; note++ {
		l = append(l, new(big.Int).Add(l[note-12], new(big.Int).Lsh(big.NewInt(1), places)))
	}
	return l
}

// nearestOf returns what Nearest must return, if the frequencies have these logarithms.
func nearestOf(l []*big.Int, f int64) (note int, off int64) {
	at := unit(1).by(f, 1, 1).logarithm()
	var least *big.Int
	for n, x := range l {
		if away := new(big.Int).Abs(new(big.Int).Sub(at, x)); least == nil || away.Cmp(least) < 0 && !same(away, least) {
			note, least = n, away
		}
	}
	return note, millicentsOf(new(big.Int).Sub(at, l[note]))
}

// sure returns a result that can't be an error.
func sure[T any](x T, e api.Errno) T {
	if e != api.OK {
		panic(e)
	}
	return x
}

func named(name string) api.Temper {
	return sure(temper.Standard(name))
}

// still is a standard of 440 hertz where pipes sound at their temperature.
func still() api.PitchStandard {
	return api.PitchStandard{A: 440000, T0: 15000, T: 15000}
}

// between returns a number from least to most; often one of these.
func between(source *rand.Rand, least, most int64) int64 {
	switch source.IntN(8) {
	case 0:
		return least
	case 1:
		return most
	}
	return least + source.Int64N(most-least+1)
}

// anyStandard returns a valid standard.
func anyStandard(source *rand.Rand) api.PitchStandard {
	s := api.PitchStandard{A: between(source, 100000, 1000000), T0: between(source, -20000, 50000), T: between(source, -20000, 50000)}
	if source.IntN(3) == 0 {
		s.T = s.T0
	}
	return s
}

// anyFrequency returns a frequency of any size, which Nearest takes.
func anyFrequency(source *rand.Rand) int64 {
	return 1 + source.Int64N(1000000000)>>source.IntN(30)
}

// withParts returns the temperament where all fifths but Wolf have one of these parts, by turns.
func withParts(isSyntonic bool, wolf int, parts ...api.CommaPart) api.Temper {
	t := api.Temper{Name: "x", Syntonic: isSyntonic, Wolf: wolf}
	for i := range t.Parts {
		t.Parts[i] = parts[i%len(parts)]
	}
	t.Parts[wolf] = api.CommaPart{Num: 0, Den: 1}
	return t
}

// anyTemper returns a valid temperament.
func anyTemper(source *rand.Rand) api.Temper {
	parts := make([]api.CommaPart, 12)
	dens := [][]int{{1}, {1, 2, 3, 4, 6}, {1, 2, 4, 8}, {1, 24}, {23}, {1, 5, 24}, {1, 7, 17}}[source.IntN(7)]
	for i := range parts {
		den := dens[source.IntN(len(dens))]
		r := big.NewRat(int64(source.IntN(4*den+1)-2*den), int64(den))
		parts[i] = api.CommaPart{Num: int(r.Num().Int64()), Den: int(r.Denom().Int64())}
	}
	return withParts(source.IntN(2) == 0, source.IntN(12), parts...)
}

var standards = []string{"equal", "pythagorean", "meantone", "werckmeister", "kirnberger", "vallotti", "young"}

// tempers returns valid temperaments: the standard ones, those whose numbers are the greatest, or whose notes do not ascend, and others.
func tempers(source *rand.Rand, count int) []api.Temper {
	var l []api.Temper
	for _, name := range standards {
		l = append(l, named(name))
	}
	for _, wolf := range []int{0, 3, 11} {
		for _, sign := range []int{1, -1} {
			l = append(l, withParts(false, wolf, api.CommaPart{Num: 2 * sign, Den: 1}), withParts(true, wolf, api.CommaPart{Num: 2 * sign, Den: 1}))
			l = append(l, withParts(false, wolf, api.CommaPart{Num: 47 * sign, Den: 24}, api.CommaPart{Num: 39 * sign, Den: 20}))
		}
	}
	for range count {
		l = append(l, anyTemper(source))
	}
	return l
}

// The reference has the known frequencies, and the known sizes of intervals.
func TestReference(t *testing.T) {
	s := still()
	for note, want := range map[int]api.Iv{69: {Lo: 440000, Hi: 440000}, 60: {Lo: 261625, Hi: 261626}, 81: {Lo: 880000, Hi: 880000}, 70: {Lo: 466163, Hi: 466164}} {
		if x := hertz(s, named("equal"), note, s.T); !x.isSpan(want) || x.isSpan(api.Iv{Lo: want.Lo + 1, Hi: want.Hi + 1}) || x.isSpan(api.Iv{Lo: want.Lo, Hi: want.Lo + 1}) != (want.Lo < want.Hi) {
			t.Errorf("the span of the note %d is not %v", note, want)
		}
	}
	for _, c := range []struct{ up, down, want int64 }{{3, 2, 701955}, {5, 4, 386313}, {2, 1, 1200000}, {1, 2, -1200000}, {1, 1, 0}, {80, 81, -21507}} {
		if m := millicentsOf(unit(1).by(c.up, 1, 1).by(c.down, -1, 1).logarithm()); m != c.want {
			t.Errorf("%d / %d has %d millicents, want %d", c.up, c.down, m, c.want)
		}
	}
	if m := millicentsOf(unit(12).by(2, 7, 12).logarithm()); m != 700000 {
		t.Errorf("a fifth of equal has %d millicents", m)
	}
}
