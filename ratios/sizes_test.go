package ratios

import (
	"math/rand/v2"
	"testing"

	"quintadena/api"
)

// P4.5: Cmp, against the reference; many of the ratios are the same, or near.
func TestCmp(t *testing.T) {
	source := rand.New(rand.NewPCG(4, 11))
	l := ratiosOf(source, 30)
	// Two ratios that are told apart by 88 places only.
	l = append(l, api.Ratio{Num: [6]int{0, 5642, 0, 94225, 0, 29503}, Den: 1}, api.Ratio{Num: [6]int{40965, 0, 94461, 0, 35365}, Den: 1})
	for _, a := range l {
		for _, b := range l {
			want := signOf(append(times(powersIn(a), int64(b.Den)), times(powersIn(b), int64(-a.Den))...)...)
			if s, e := Cmp(a, b); s != want || e != api.OK || want == 0 != (a == b) {
				t.Errorf("Cmp(%v, %v) = %d, %d, want %d", a, b, s, e, want)
			}
		}
	}
}

// P4.5: Fold, as it is described: a / 2^octaves is from 1 to below 2.
func TestFold(t *testing.T) {
	source := rand.New(rand.NewPCG(4, 12))
	errors := 0
	for _, a := range ratiosOf(source, 60) {
		r, octaves, e := Fold(a)
		if e == api.ErrRange {
			errors++
			// The only octaves that fit in would be these.
			n, _, _ := Floor(powersIn(a), int64(a.Den), 1)
			if _, want := combine(a, sure(Of(2, 1)), -n, 1); r != (api.Ratio{}) || octaves != 0 || want != e {
				t.Errorf("Fold(%v) = %v, %d, ErrRange", a, r, octaves)
			}
			continue
		}
		want, _ := combine(a, sure(Of(2, 1)), int64(-octaves), 1)
		low, high := times(powersIn(r), 1), times(append(powersIn(r), api.Term{N: 2, Num: int64(-r.Den)}), 1)
		if r != want || e != api.OK || signOf(low...) < 0 || signOf(high...) >= 0 {
			t.Errorf("Fold(%v) = %v, %d, %d", a, r, octaves, e)
		}
	}
	if errors == 0 {
		t.Error("no ratio is folded out of range")
	}
}

// P4.5: the examples of Fold, octaves that are exact, and results at the limits.
func TestFoldOfSome(t *testing.T) {
	for _, c := range []struct {
		a, want api.Ratio
		octaves int
		e       api.Errno
	}{
		{api.Ratio{Num: [6]int{1: 12}, Den: 1}, api.Ratio{Num: [6]int{-19, 12}, Den: 1}, 19, api.OK},
		{sure(Of(1, 3)), sure(Of(4, 3)), -2, api.OK},
		{one(), one(), 0, api.OK},
		{sure(Of(2, 1)), one(), 1, api.OK},
		{sure(Of(1, 2)), one(), -1, api.OK},
		{sure(Of(3, 2)), sure(Of(3, 2)), 0, api.OK},
		{api.Ratio{Num: [6]int{100000}, Den: 1}, one(), 100000, api.OK},
		{api.Ratio{Num: [6]int{-100000}, Den: 1}, one(), -100000, api.OK},
		{api.Ratio{Num: [6]int{-1}, Den: 1000}, api.Ratio{Num: [6]int{999}, Den: 1000}, -1, api.OK},
		{api.Ratio{Num: [6]int{99999}, Den: 1000}, api.Ratio{Num: [6]int{999}, Den: 1000}, 99, api.OK},
		{api.Ratio{Num: [6]int{0, 63093}, Den: 1}, api.Ratio{Num: [6]int{-100000, 63093}, Den: 1}, 100000, api.OK},
		{api.Ratio{Num: [6]int{0, 63094}, Den: 1}, api.Ratio{}, 0, api.ErrRange},
		{api.Ratio{Num: [6]int{0, -63092}, Den: 1}, api.Ratio{Num: [6]int{99999, -63092}, Den: 1}, -99999, api.OK},
		{api.Ratio{Num: [6]int{0, -63093}, Den: 1}, api.Ratio{}, 0, api.ErrRange},
		{api.Ratio{Num: [6]int{100000, 63093}, Den: 1}, api.Ratio{Num: [6]int{-100000, 63093}, Den: 1}, 200000, api.OK},
	} {
		if r, n, e := Fold(c.a); r != c.want || n != c.octaves || e != c.e {
			t.Errorf("Fold(%v) = %v, %d, %d", c.a, r, n, e)
		}
	}
}

// P4.5: Cents are what Floor returns.
func TestCents(t *testing.T) {
	for _, c := range []struct {
		a     api.Ratio
		want  int64
		exact bool
		e     api.Errno
	}{
		{sure(Of(3, 2)), 701955, false, api.OK},
		{sure(Of(5, 4)), 386313, false, api.OK},
		{sure(Of(81, 80)), 21506, false, api.OK},
		{sure(Of(80, 81)), -21507, false, api.OK},
		{api.Ratio{Num: [6]int{2: 1}, Den: 4}, 696578, false, api.OK},
		{one(), 0, true, api.OK},
		{sure(Of(2, 1)), 1200000, true, api.OK},
		{sure(Of(1, 2)), -1200000, true, api.OK},
		{api.Ratio{Num: [6]int{7}, Den: 12}, 700000, true, api.OK},
		{api.Ratio{Num: [6]int{1}, Den: 7}, 171428, false, api.OK},
		{api.Ratio{Num: [6]int{-1}, Den: 7}, -171429, false, api.OK},
		{api.Ratio{Num: [6]int{100000}, Den: 1}, 120000000000, true, api.OK},
		{api.Ratio{Num: [6]int{100000, 100000, 100000, 100000}, Den: 1}, 925709462119, false, api.OK},
		{api.Ratio{Num: [6]int{100000, 100000, 100000, 100000, 100000}, Den: 1}, 0, false, api.ErrRange},
		{api.Ratio{Num: [6]int{-100000, -100000, -100000, -100000, -100000}, Den: 1}, 0, false, api.ErrRange},
	} {
		if m, exact, e := Cents(c.a); m != c.want || exact != c.exact || e != c.e {
			t.Errorf("Cents(%v) = %d, %v, %d", c.a, m, exact, e)
		}
	}
	source := rand.New(rand.NewPCG(4, 13))
	for _, a := range ratiosOf(source, 60) {
		m, exact, e := Cents(a)
		wantFound(t, "Cents", m, exact, e, -1000000000000, func(m int64) int { return floorOrder(powersIn(a), int64(a.Den), 1200000, m) })
	}
}
