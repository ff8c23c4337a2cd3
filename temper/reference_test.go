package temper

import (
	"math/big"
	"math/rand/v2"
	"testing"

	"quintadena/api"
)

// The reference follows the definitions of the chapter word by word, with fractions of math/big as exponents, and logarithms of 60 places.

// interval is the product of the powers of 2, 3, 5, 7, 11 and 13 with these exponents.
type interval [6]*big.Rat

// logarithms are those of 3 and 5 to the base 2.
var logarithms = [6]*big.Rat{
	1: decimal("1.584962500721156181453738943947816508759814407692481060455753"),
	2: decimal("2.321928094887362347870319429489390175864831393024580612054756"),
}

func decimal(s string) *big.Rat {
	r, ok := new(big.Rat).SetString(s)
	if !ok {
		panic(s)
	}
	return r
}

// exponents returns the interval of the powers of 2, 3 and 5.
func exponents(two, three, five int64) interval {
	return interval{big.NewRat(two, 1), big.NewRat(three, 1), big.NewRat(five, 1), new(big.Rat), new(big.Rat), new(big.Rat)}
}

// raise returns a times b to the power of by.
func raise(a, b interval, by *big.Rat) interval {
	var r interval
	for i := range r {
		r[i] = new(big.Rat).Mul(b[i], by)
		r[i].Add(r[i], a[i])
	}
	return r
}

func times(a, b interval) interval {
	return raise(a, b, big.NewRat(1, 1))
}

func over(a, b interval) interval {
	return raise(a, b, big.NewRat(-1, 1))
}

// logarithm returns that of a to the base 2; of a power of 2, it is exact.
func logarithm(a interval) *big.Rat {
	sum := new(big.Rat).Set(a[0])
	for i, l := range logarithms {
		if l != nil {
			sum.Add(sum, new(big.Rat).Mul(a[i], l))
		}
	}
	return sum
}

// floor returns the greatest whole number that is not above r.
func floor(r *big.Rat) int64 {
	return new(big.Int).Div(r.Num(), r.Denom()).Int64()
}

// folded returns a, divided by the power of 2 that makes it from 1 to below 2.
func folded(a interval) interval {
	return over(a, exponents(floor(logarithm(a)), 0, 0))
}

// millicents returns a in millicents, rounded down.
func millicents(a interval) int64 {
	return floor(new(big.Rat).Mul(logarithm(a), big.NewRat(1200000, 1)))
}

// sizeOf returns the size of the fifth i.
func sizeOf(t api.Temper, i int) interval {
	if i == t.Wolf {
		size := exponents(7, 0, 0)
		for j := range 12 {
			if j != i {
				size = over(size, sizeOf(t, j))
			}
		}
		return size
	}
	comma := exponents(-19, 12, 0)
	if t.Syntonic {
		comma = exponents(-4, 4, -1)
	}
	return raise(exponents(-1, 1, 0), comma, big.NewRat(int64(-t.Parts[i].Num), int64(t.Parts[i].Den)))
}

// noteOf returns the note of a class.
func noteOf(t api.Temper, class int) interval {
	j := 0
	for 7*j%12 != class {
		j++
	}
	note := exponents(0, 0, 0)
	if j <= t.Wolf {
		for i := range j {
			note = times(note, sizeOf(t, i))
		}
		return folded(note)
	}
	note = exponents(7, 0, 0)
	for i := j; i <= 11; i++ {
		note = over(note, sizeOf(t, i))
	}
	return folded(note)
}

// upTo returns how far it is from a class up to the next note of another one.
func upTo(t api.Temper, from, to int) interval {
	r := over(noteOf(t, to), noteOf(t, from))
	if logarithm(r).Sign() < 0 {
		r = times(r, exponents(1, 0, 0))
	}
	return r
}

// ratioOf returns the ratio with these exponents: Den is the least common multiple of their denominators.
func ratioOf(a interval) api.Ratio {
	den := big.NewInt(1)
	for _, x := range a {
		divisor := new(big.Int).GCD(nil, nil, den, x.Denom())
		den.Mul(den, new(big.Int).Quo(x.Denom(), divisor))
	}
	r := api.Ratio{Den: int(den.Int64())}
	for i, x := range a {
		r.Num[i] = int(new(big.Int).Mul(x.Num(), new(big.Int).Quo(den, x.Denom())).Int64())
	}
	return r
}

// intervalOf returns what the ratio r is.
func intervalOf(r api.Ratio) interval {
	var a interval
	for i, n := range r.Num {
		a[i] = big.NewRat(int64(n), int64(r.Den))
	}
	return a
}

// sure returns a result that can't be an error.
func sure[T any](x T, e api.Errno) T {
	if e != api.OK {
		panic(e)
	}
	return x
}

func absolute(n int64) int64 {
	if n < 0 {
		return -n
	}
	return n
}

// lowest returns num / den in lowest terms.
func lowest(num, den int) api.CommaPart {
	r := big.NewRat(int64(num), int64(den))
	return api.CommaPart{Num: int(r.Num().Int64()), Den: int(r.Denom().Int64())}
}

// tempered returns the temperament where all fifths but Wolf have this part.
func tempered(isSyntonic bool, wolf int, part api.CommaPart) api.Temper {
	t := api.Temper{Name: "all", Syntonic: isSyntonic, Wolf: wolf}
	for i := range t.Parts {
		t.Parts[i] = part
	}
	t.Parts[wolf] = api.CommaPart{Num: 0, Den: 1}
	return t
}

// anyTemper returns a valid temperament.
func anyTemper(source *rand.Rand) api.Temper {
	names := []string{"a", "Z", "old_8", "abcdefghijklmnop", "syntonic", "pythagorean", "equal"}
	t := api.Temper{Name: names[source.IntN(len(names))], Syntonic: source.IntN(2) == 0, Wolf: source.IntN(12)}
	multiple := 1 + source.IntN(api.MaxTemperDen)
	for i := range t.Parts {
		den := 1 + source.IntN(24)
		for multiple%den != 0 {
			den = 1 + source.IntN(24)
		}
		t.Parts[i] = lowest(source.IntN(4*den+1)-2*den, den)
	}
	t.Parts[t.Wolf] = api.CommaPart{Num: 0, Den: 1}
	return t
}

var standards = []string{"equal", "pythagorean", "meantone", "werckmeister", "kirnberger", "vallotti", "young"}

// tempers returns valid temperaments: the standard ones, those that are farthest from pure fifths or have the greatest denominators, and others.
func tempers(source *rand.Rand, count int) []api.Temper {
	var l []api.Temper
	for _, name := range standards {
		l = append(l, sure(Standard(name)))
	}
	for _, isSyntonic := range []bool{false, true} {
		for _, wolf := range []int{0, 5, 11} {
			for _, part := range []api.CommaPart{{Num: 2, Den: 1}, {Num: -2, Den: 1}, {Num: 47, Den: 24}, {Num: -47, Den: 24}, {Num: 0, Den: 1}} {
				t := tempered(isSyntonic, wolf, part)
				l = append(l, t)
				t.Parts[(wolf+3)%12] = api.CommaPart{Num: 9, Den: 5}
				l = append(l, t)
			}
		}
	}
	for range count {
		l = append(l, anyTemper(source))
	}
	return l
}

// The reference has the known sizes of intervals.
func TestReference(t *testing.T) {
	for want, a := range map[int64]interval{
		701955: exponents(-1, 1, 0),
		386313: exponents(-2, 0, 1),
		21506:  exponents(-4, 4, -1),
		23460:  exponents(-19, 12, 0),
		1953:   exponents(-15, 8, 1),
		-1954:  exponents(15, -8, -1),
		0:      exponents(0, 0, 0),
	} {
		if m := millicents(a); m != want {
			t.Errorf("%v has %d millicents, want %d", a, m, want)
		}
	}
	if m := millicents(raise(exponents(0, 0, 0), exponents(1, 0, 0), big.NewRat(7, 12))); m != 700000 {
		t.Errorf("a fifth of equal has %d millicents", m)
	}
}
