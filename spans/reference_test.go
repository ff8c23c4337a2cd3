package spans

import (
	"math/rand/v2"
	"testing"

	"quintadena/api"
	"quintadena/wide"
)

// The reference calculates with the fractions of layer 2, and follows what the document says: a span is from the least number rounded down to the greatest one rounded up.

const most = api.MaxIv

type (
	unary  func(a api.Iv) (api.Iv, api.Errno)
	binary func(a, b api.Iv) (api.Iv, api.Errno)
)

func iv(lo, hi int64) api.Iv {
	return api.Iv{Lo: lo, Hi: hi}
}

// sure returns a result that can't be an error.
func sure[T any](x T, e api.Errno) T {
	if e != api.OK {
		panic(e)
	}
	return x
}

// number returns n.
func number(n int64) api.Quo {
	size := uint64(n)
	if n < 0 {
		size = -size
	}
	return sure(wide.Ratio(n < 0, wide.Of(size), wide.Of(1)))
}

// quotient returns n / d.
func quotient(n, d int64) api.Quo {
	return sure(wide.QDiv(number(n), number(d)))
}

// roundedDown returns q rounded down, and whether that may be a bound.
func roundedDown(q api.Quo) (int64, bool) {
	neg, size, _ := wide.QFloor(q)
	n, e := wide.Small(size)
	if e != api.OK || n > most {
		return 0, false
	}
	if neg {
		return -int64(n), true
	}
	return int64(n), true
}

// spanOf returns the span of the numbers in l, or ErrRange.
func spanOf(l []api.Quo) (api.Iv, api.Errno) {
	least, greatest := l[0], l[0]
	for _, q := range l {
		if sure(wide.QCmp(q, least)) < 0 {
			least = q
		}
		if sure(wide.QCmp(q, greatest)) > 0 {
			greatest = q
		}
	}
	lo, loFits := roundedDown(least)
	hi, hiFits := roundedDown(sure(wide.QSub(number(0), greatest)))
	if !loFits || !hiFits {
		return api.Iv{}, api.ErrRange
	}
	return iv(lo, -hi), api.OK
}

// wantSpan compares a result with the span of what f makes of each of l and each of m.
func wantSpan(t *testing.T, name string, got api.Iv, e api.Errno, l, m []api.Quo, f func(x, y api.Quo) api.Quo) {
	t.Helper()
	var all []api.Quo
	for _, x := range l {
		for _, y := range m {
			all = append(all, f(x, y))
		}
	}
	if want, wantE := spanOf(all); got != want || e != wantE {
		t.Errorf("%s: %v, %d, want %v, %d", name, got, e, want, wantE)
	}
}

// wantError reports where a result is not the error e with zero values.
func wantError(t *testing.T, name string, got api.Iv, e, want api.Errno) {
	t.Helper()
	if got != (api.Iv{}) || e != want {
		t.Errorf("%s: %v, %d, want %d", name, got, e, want)
	}
}

// narrow returns all intervals with bounds from -n to n.
func narrow(n int64) []api.Iv {
	var l []api.Iv
	for lo := -n; lo <= n; lo++ {
		for hi := lo; hi <= n; hi++ {
			l = append(l, iv(lo, hi))
		}
	}
	return l
}

// members returns all members of a that are a whole number of parts.
func members(a api.Iv, parts int64) []api.Quo {
	var l []api.Quo
	for n := a.Lo * parts; n <= a.Hi*parts; n++ {
		l = append(l, quotient(n, parts))
	}
	return l
}

// bounds returns the members of a that the least and the greatest results can come from: its bounds, and 0.
func bounds(a api.Iv) []api.Quo {
	l := []api.Quo{number(a.Lo), number(a.Hi)}
	if has(a, 0) {
		l = append(l, number(0))
	}
	return l
}

func has(a api.Iv, n int64) bool {
	return a.Lo <= n && n <= a.Hi
}

// inside reports whether all members of a are members of b.
func inside(a, b api.Iv) bool {
	return b.Lo <= a.Lo && a.Hi <= b.Hi
}

// edges returns numbers near which something changes.
func edges() []int64 {
	l := []int64{0}
	for _, n := range []int64{1, 3, 7, 1 << 31, 2423175810, 1467945251641000612, 3000000000, 1 << 32, api.PiOne, 1 << 60, most} {
		l = append(l, n-1, n, 1-n, -n)
		if n < most {
			l = append(l, n+1, -1-n)
		}
	}
	return l
}

// random returns a number of any size that may be a bound.
func random(source *rand.Rand) int64 {
	n := int64(source.Uint64N(most+1) >> source.IntN(63))
	if source.IntN(2) == 0 {
		return -n
	}
	return n
}

// intervals returns intervals of all sizes; half of their bounds are at edges.
func intervals(count int) []api.Iv {
	l := []api.Iv{iv(-most, most), iv(0, most), iv(-most, 0), iv(most, most), iv(-most, -most), iv(0, 0)}
	source := rand.New(rand.NewPCG(3, uint64(count)))
	e := edges()
	for range count {
		x, y, z := random(source), e[source.IntN(len(e))], e[source.IntN(len(e))]
		l = append(l, iv(x, x), iv(y, y), iv(min(x, y), max(x, y)), iv(min(y, z), max(y, z)))
	}
	return l
}
