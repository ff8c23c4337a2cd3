package ratios

import (
	"math/rand/v2"
	"slices"
	"testing"

	"quintadena/api"
)

// floorOrder returns the sign of the scale-th power of the product, less 2^(m den): of what Floor looks for, less m.
func floorOrder(l []api.Term, den, scale, m int64) int {
	return signOf(append(times(l, scale), times(product(2, -m), den)...)...)
}

// powerOrder returns the sign of what Power looks for, less k.
func powerOrder(scale int64, l []api.Term, den, k int64) int {
	if k == 0 {
		return 1
	}
	return signOf(append(times(l, 1), times(product(scale, 1, k, -1), den)...)...)
}

// wantFound compares a result with what order says: n is not too great, n + 1 is, and n is exact or not; or no n from least to 10^12 is so.
func wantFound(t *testing.T, name string, n int64, exact bool, e api.Errno, least int64, order func(n int64) int) {
	t.Helper()
	const most = 1000000000000
	switch {
	case e == api.ErrRange:
		if n != 0 || exact || order(least) >= 0 && order(most+1) < 0 {
			t.Errorf("%s: %d, %v, ErrRange", name, n, exact)
		}
	case e != api.OK:
		t.Errorf("%s: %d, %v, %d", name, n, exact, e)
	case n < least || n > most || order(n) < 0 || order(n+1) >= 0 || exact != (order(n) == 0):
		t.Errorf("%s: %d, %v", name, n, exact)
	}
}

func wantFloor(t *testing.T, l []api.Term, den, scale int64) {
	t.Helper()
	m, exact, e := Floor(l, den, scale)
	wantFound(t, "Floor", m, exact, e, -1000000000000, func(m int64) int { return floorOrder(l, den, scale, m) })
}

func wantPower(t *testing.T, scale int64, l []api.Term, den int64) {
	t.Helper()
	k, exact, e := Power(scale, l, den)
	wantFound(t, "Power", k, exact, e, 0, func(k int64) int { return powerOrder(scale, l, den, k) })
}

// P4.2: the examples, exact results, results rounded down below 0, and the limits.
func TestFloor(t *testing.T) {
	for _, c := range []struct {
		l          []api.Term
		den, scale int64
		want       int64
		exact      bool
		e          api.Errno
	}{
		{product(3, 1, 2, -1), 1, 1200, 701, false, api.OK},
		{product(3, 1, 2, -1), 1, 1200000, 701955, false, api.OK},
		{product(2, 7), 12, 1200, 700, true, api.OK},
		{product(2, -1, 3, -1), 1, 1, -3, false, api.OK},
		{product(4, -3), 2, 1, -3, true, api.OK},
		{product(4, -3), 4, 1, -2, false, api.OK},
		{product(4, 3), 4, 1, 1, false, api.OK},
		{nil, 5, 7, 0, true, api.OK},
		{product(2, 1), 1000000, 10000000, 10, true, api.OK},
		{product(2, 1), 1000000, 1, 0, false, api.OK},
		{product(2, -1), 1000000, 1, -1, false, api.OK},
		{product(1000000000000, 1, 999999999999, -1), 1000000, 10000000, 0, false, api.OK},
		{product(1000000000000, -1, 999999999999, 1), 1000000, 10000000, -1, false, api.OK},
		{product(2, 1000000000), 1, 1000, 1000000000000, true, api.OK},
		{product(2, -1000000000), 1, 1000, -1000000000000, true, api.OK},
		{product(2, 1000000000, 999999999989, 1, 1000000000000, -1), 1, 1000, 999999999999, false, api.OK},
		{product(2, 1000000000, 1000000000000, 1, 999999999989, -1), 1, 1000, 1000000000000, false, api.OK},
		{product(2, -1000000000, 1000000000000, 1, 999999999989, -1), 1, 1000, -1000000000000, false, api.OK},
		{product(2, -1000000000, 1000000000000, -1, 999999999989, 1), 1, 1000, 0, false, api.ErrRange},
		{product(2, 1000000000, 2, 1), 1000, 1000000, 0, false, api.ErrRange},
		{product(2, 99990001), 1, 10001, 0, false, api.ErrRange},
		{product(2, -99990001), 1, 10001, 0, false, api.ErrRange},
		{product(2, 1000000000), 1, 1001, 0, false, api.ErrRange},
		{product(2, -1000000000), 1, 1001, 0, false, api.ErrRange},
		{sixteen(1000000000000, 1000000000), 1, 10000000, 0, false, api.ErrRange},
		{sixteen(1000000000000, -1000000000), 1, 10000000, 0, false, api.ErrRange},
	} {
		if m, exact, e := Floor(c.l, c.den, c.scale); m != c.want || exact != c.exact || e != c.e {
			t.Errorf("Floor(%v, %d, %d) = %d, %v, %d", c.l, c.den, c.scale, m, exact, e)
		}
	}
}

// P4.2: likewise.
func TestPower(t *testing.T) {
	const most = 1000000000000
	for _, c := range []struct {
		scale int64
		l     []api.Term
		den   int64
		want  int64
		exact bool
		e     api.Errno
	}{
		{440000, product(2, -9), 12, 261625, false, api.OK},
		{100, product(2, 1), 2, 141, false, api.OK},
		{8, product(4, 1), 2, 16, true, api.OK},
		{1, product(2, -1), 1, 0, false, api.OK},
		{1, product(1000000000000, -1000000000), 1, 0, false, api.OK},
		{2, product(2, -1), 1, 1, true, api.OK},
		{2, product(2, -1000000, 999999, 1, 1000000, -1), 1000000, 0, false, api.OK},
		{2, product(2, -1000000, 1000000, 1, 999999, -1), 1000000, 1, false, api.OK},
		{most, nil, 1, most, true, api.OK},
		{most, nil, 1000000, most, true, api.OK},
		{most, product(most, 1, most-1, -1), 1, 0, false, api.ErrRange},
		{most, product(most, 1, most-1, -1), 2, most, false, api.OK},
		{most, product(most-1, 1, most, -1), 1, most - 1, true, api.OK},
		{most, product(most-1, 1, most, -1), 2, most - 1, false, api.OK},
		{3, product(2, 40), 1, 0, false, api.ErrRange},
		{1, product(10, 12), 1, most, true, api.OK},
		{1, product(10, 24), 2, most, true, api.OK},
		{10001, product(99990001, 1), 1, 0, false, api.ErrRange},
		{7, sixteen(most, 1000000000), 1000000, 0, false, api.ErrRange},
		{most, sixteen(most, -1000000000), 1000000, 0, false, api.OK},
	} {
		if k, exact, e := Power(c.scale, c.l, c.den); k != c.want || exact != c.exact || e != c.e {
			t.Errorf("Power(%d, %v, %d) = %d, %v, %d", c.scale, c.l, c.den, k, exact, e)
		}
	}
}

// P4.2, P4.7: terms of all sizes.
func TestFloorAndPowerOfAny(t *testing.T) {
	source := rand.New(rand.NewPCG(4, 3))
	for range 150 {
		l := termsOf(source, 5)
		wantFloor(t, l, upTo(source, 1000000), upTo(source, 10000000))
		wantPower(t, upTo(source, api.MaxTermN), l, upTo(source, 1000000))
		for i := range l {
			l[i].Num %= 50
		}
		wantFloor(t, l, upTo(source, 100), upTo(source, 10000000))
		wantPower(t, upTo(source, 1000000), l, upTo(source, 100))
	}
	for _, l := range near() {
		wantFloor(t, l, 1, 10000000)
		wantFloor(t, inverse(l), 7, 1200000)
		wantPower(t, 440000, l, 12)
		wantPower(t, 440000, inverse(l), 12)
	}
}

// P4.2: the greatest exponents that may be compared: those of the terms and those of 2 near 10^18 together, and factors 2 of all terms.
func TestGreatestExponents(t *testing.T) {
	const most = 1000000000
	for _, l := range [][]api.Term{sixteen(76, most), sixteen(77, most), sixteen(2, most), sixteen(999999999989, most)} {
		wantFloor(t, l, 1000000, 10000000)
		wantFloor(t, inverse(l), 1000000, 10000000)
		opposites := slices.Concat(l[:8], inverse(l)[:8])
		wantFloor(t, opposites, 1, 10000000)
		opposites[3].Num--
		wantFloor(t, opposites, 1000000, 10000000)
	}
	for _, n := range []int64{549755813888, 847288609443} {
		if m, exact, e := Floor(slices.Concat(sixteen(n, most)[:8], sixteen(n, -most)[:8]), 1, 10000000); m != 0 || !exact || e != api.OK {
			t.Errorf("Floor of 1 by powers of %d = %d, %v, %d", n, m, exact, e)
		}
	}
}

// P4.2: results that are exact, and those next to them.
func TestExactResults(t *testing.T) {
	source := rand.New(rand.NewPCG(4, 4))
	more := product(1000000000000, 1, 999999999999, -1)
	for range 100 {
		// 2^(m / scale) is the den-th root of 2^(m den / scale).
		scale, den := upTo(source, 1000), upTo(source, 1000)
		factor := exponent(source, 1000)
		l := product(2, factor*den)
		for _, c := range []struct {
			l     []api.Term
			want  int64
			exact bool
		}{{l, factor * scale, true}, {slices.Concat(l, more), factor * scale, false}, {slices.Concat(l, inverse(more)), factor*scale - 1, false}} {
			if m, exact, e := Floor(c.l, den, scale); m != c.want || exact != c.exact || e != api.OK {
				t.Errorf("Floor(%v, %d, %d) = %d, %v, %d, want %d", c.l, den, scale, m, exact, e, c.want)
			}
		}
		// scale times the den-th root of (k / scale)^den is k.
		k := upTo(source, 1000000)
		l = product(k, den, scale, -den)
		for _, c := range []struct {
			l     []api.Term
			want  int64
			exact bool
		}{{l, k, true}, {slices.Concat(l, more), k, false}, {slices.Concat(l, inverse(more)), k - 1, false}} {
			if got, exact, e := Power(scale, c.l, den); got != c.want || exact != c.exact || e != api.OK {
				t.Errorf("Power(%d, %v, %d) = %d, %v, %d, want %d", scale, c.l, den, got, exact, e, c.want)
			}
		}
	}
}
