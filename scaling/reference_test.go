package scaling

import (
	"math/big"
	"math/rand/v2"
	"testing"

	"quintadena/api"
)

// The reference follows the definitions of the chapter with fractions and whole numbers of math/big; it goes from semitone to semitone.

// halvings returns the exponent at a note.
func halvings(s api.SlScale, note int) *big.Rat {
	x := new(big.Rat)
	for from := s.Bends[0].Note; from < note; from++ {
		half := 0
		for _, b := range s.Bends {
			if b.Note <= from {
				half = b.Half
			}
		}
		x.Add(x, big.NewRat(1, int64(half)))
	}
	return x
}

// order returns the sign of k less the exact diameter at the exponent x.
func order(s api.SlScale, x *big.Rat, k int64) int {
	shrunk := k - s.Constant
	if shrunk <= 0 {
		return -1
	}
	power := func(n int64) *big.Int {
		return new(big.Int).Exp(big.NewInt(n), x.Denom(), nil)
	}
	left := power(shrunk)
	return left.Lsh(left, uint(x.Num().Int64())).Cmp(power(s.Diameter - s.Constant))
}

// isSpan reports whether v is the diameter at a note.
func isSpan(s api.SlScale, note int, v api.Iv) bool {
	x := halvings(s, note)
	if v.Lo == v.Hi {
		return order(s, x, v.Lo) == 0
	}
	return v.Hi == v.Lo+1 && order(s, x, v.Lo) < 0 && order(s, x, v.Hi) > 0
}

// part returns a num / den, rounded down (up: the least whole number not below it).
func part(a, num, den int64, up bool) int64 {
	if up {
		return -part(-a, num, den, false)
	}
	n := new(big.Int).Mul(big.NewInt(a), big.NewInt(num))
	return n.Div(n, big.NewInt(den)).Int64()
}

// parts returns the span of the members of a, times num / den.
func parts(a api.Iv, num, den int64) api.Iv {
	return api.Iv{Lo: part(a.Lo, num, den, false), Hi: part(a.Hi, num, den, true)}
}

// mouth returns the width and the cut-up of a mouth, for a diameter.
func mouth(s api.SlScale, d api.Iv) (width, cut api.Iv) {
	around := api.Iv{Lo: part(d.Lo, api.PiLow, api.PiOne, false), Hi: part(d.Hi, api.PiHigh, api.PiOne, true)}
	width = parts(around, s.MouthNum, s.MouthDen)
	return width, parts(width, s.CutNum, s.CutDen)
}

// sure returns a result that can't be an error.
func sure[T any](x T, e api.Errno) T {
	if e != api.OK {
		panic(e)
	}
	return x
}

// principal is the scale of the chapter's examples.
func principal() api.SlScale {
	return withBends(155500, 0, api.SlBend{Note: 36, Half: 16})
}

func withBends(diameter, constant int64, l ...api.SlBend) api.SlScale {
	return api.SlScale{Diameter: diameter, Constant: constant, Bends: l, MouthNum: 1, MouthDen: 4, CutNum: 1, CutDen: 4}
}

// between returns a number from least to most; often one of these.
func between(source *rand.Rand, least, most int64) int64 {
	switch source.IntN(8) {
	case 0:
		return least
	case 1:
		return most
	}
	return least + source.Int64N(most-least+1)
}

// anyScale returns a valid scale.
func anyScale(source *rand.Rand) api.SlScale {
	s := api.SlScale{
		Diameter: between(source, 1000, 500000),
		MouthDen: between(source, 2, 20),
		CutNum:   between(source, 1, 20),
		CutDen:   between(source, 1, 20),
	}
	if source.IntN(3) > 0 {
		s.Constant = between(source, 0, min(50000, s.Diameter-1))
	}
	s.MouthNum = between(source, 1, s.MouthDen-1)
	room := between(source, 0, 137)
	for range 1 + source.IntN(3) {
		s.Bends = append(s.Bends, api.SlBend{Note: int(room), Half: int(between(source, 8, 64))})
		room = min(room+1+source.Int64N(40), 139)
		if room == 139 {
			break
		}
	}
	return s
}

// anyNote returns a note of a scale.
func anyNote(source *rand.Rand, s api.SlScale) int {
	return int(between(source, int64(s.Bends[0].Note), 139))
}

// scales returns valid scales: those at limits, and others.
func scales(source *rand.Rand, count int) []api.SlScale {
	l := []api.SlScale{
		principal(),
		withBends(1000, 0, api.SlBend{Note: 0, Half: 8}),
		withBends(1000, 999, api.SlBend{Note: 0, Half: 8}),
		withBends(500000, 0, api.SlBend{Note: 0, Half: 64}),
		withBends(500000, 50000, api.SlBend{Note: 0, Half: 64}, api.SlBend{Note: 1, Half: 63}, api.SlBend{Note: 2, Half: 61}),
		withBends(50001, 50000, api.SlBend{Note: 139, Half: 20}),
		withBends(300000, 1500, api.SlBend{Note: 137, Half: 8}, api.SlBend{Note: 138, Half: 9}, api.SlBend{Note: 139, Half: 10}),
	}
	for range count {
		l = append(l, anyScale(source))
	}
	return l
}

// The reference has the known exponents and diameters.
func TestReference(t *testing.T) {
	two := withBends(155500, 1500, api.SlBend{Note: 36, Half: 16}, api.SlBend{Note: 52, Half: 8})
	for note, want := range map[int]*big.Rat{36: big.NewRat(0, 1), 37: big.NewRat(1, 16), 52: big.NewRat(1, 1), 53: big.NewRat(9, 8), 139: big.NewRat(95, 8)} {
		if x := halvings(two, note); x.Cmp(want) != 0 {
			t.Errorf("the exponent at %d is %v, want %v", note, x, want)
		}
	}
	for note, want := range map[int]api.Iv{36: {Lo: 155500, Hi: 155500}, 44: {Lo: 109955, Hi: 109956}, 52: {Lo: 77750, Hi: 77750}, 84: {Lo: 19437, Hi: 19438}} {
		if !isSpan(principal(), note, want) || isSpan(principal(), note, api.Iv{Lo: want.Lo, Hi: want.Hi + 1}) || isSpan(principal(), note, api.Iv{Lo: want.Lo + 1, Hi: want.Hi + 1}) {
			t.Errorf("the diameter at %d is not %v", note, want)
		}
	}
}
