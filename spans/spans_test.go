package spans

import (
	"testing"

	"quintadena/api"
	"quintadena/wide"
)

// sumAndDifference returns what Add and Sub are of two numbers.
func sumAndDifference() (add, sub func(x, y api.Quo) api.Quo) {
	add = func(x, y api.Quo) api.Quo { return sure(wide.QAdd(x, y)) }
	sub = func(x, y api.Quo) api.Quo { return sure(wide.QSub(x, y)) }
	return add, sub
}

// P3.2: Add and Sub.
func TestAddAndSub(t *testing.T) {
	add, sub := sumAndDifference()
	for _, a := range narrow(3) {
		for _, b := range narrow(3) {
			s, e := Add(a, b)
			wantSpan(t, "Add", s, e, members(a, 2), members(b, 2), add)
			d, e := Sub(a, b)
			wantSpan(t, "Sub", d, e, members(a, 2), members(b, 2), sub)
		}
	}
	for _, a := range intervals(25) {
		for _, b := range intervals(26) {
			s, e := Add(a, b)
			wantSpan(t, "Add", s, e, bounds(a), bounds(b), add)
			d, e := Sub(a, b)
			wantSpan(t, "Sub", d, e, bounds(a), bounds(b), sub)
		}
	}
}

// P3.2: the greatest and least sums that are allowed, and those that are not.
func TestSumsAtTheLimit(t *testing.T) {
	for _, x := range []struct {
		a, b api.Iv
		want api.Iv
		e    api.Errno
	}{
		{iv(0, most-1), iv(1, 1), iv(1, most), api.OK},
		{iv(0, most), iv(1, 1), api.Iv{}, api.ErrRange},
		{iv(most, most), iv(1, 1), api.Iv{}, api.ErrRange},
		{iv(most, most), iv(-1, 0), iv(most-1, most), api.OK},
		{iv(1-most, 0), iv(-1, 0), iv(-most, 0), api.OK},
		{iv(-most, 0), iv(-1, 0), api.Iv{}, api.ErrRange},
		{iv(0, most), iv(0, most), api.Iv{}, api.ErrRange},
		{iv(most, most), iv(most, most), api.Iv{}, api.ErrRange},
		{iv(-most, -most), iv(-most, -most), api.Iv{}, api.ErrRange},
		{iv(-most, -most), iv(most, most), iv(0, 0), api.OK},
		{iv(-most, most), iv(-most, most), api.Iv{}, api.ErrRange},
	} {
		if got, e := Add(x.a, x.b); got != x.want || e != x.e {
			t.Errorf("Add(%v, %v) = %v, %d", x.a, x.b, got, e)
		}
		if got, e := Sub(x.a, iv(-x.b.Hi, -x.b.Lo)); got != x.want || e != x.e {
			t.Errorf("Sub(%v, minus %v) = %v, %d", x.a, x.b, got, e)
		}
	}
}

// common returns how many of the numbers from -n to n are members of both, and the members of one of them at least.
func common(a, b api.Iv, n int64) (both int, either []api.Quo) {
	for x := -n; x <= n; x++ {
		if has(a, x) && has(b, x) {
			both++
		}
		if has(a, x) || has(b, x) {
			either = append(either, number(x))
		}
	}
	return both, either
}

// P3.6: all intervals with small bounds, by their members.
func TestNarrowHullMeetAndOrder(t *testing.T) {
	for _, a := range narrow(4) {
		for _, b := range narrow(4) {
			both, either := common(a, b, 4)
			h, e := Hull(a, b)
			if want, _ := spanOf(either); h != want || e != api.OK {
				t.Errorf("Hull(%v, %v) = %v, %d", a, b, h, e)
			}
			m, e := Meet(a, b)
			if both == 0 {
				wantError(t, "Meet", m, e, api.ErrNone)
			} else if e != api.OK || !inside(m, a) || !inside(m, b) || m.Hi-m.Lo+1 != int64(both) {
				t.Errorf("Meet(%v, %v) = %v, %d", a, b, m, e)
			}
			want := 0
			if both == 0 && a.Lo < b.Lo {
				want = -1
			} else if both == 0 {
				want = 1
			}
			if n, e := Order(a, b); n != want || e != api.OK {
				t.Errorf("Order(%v, %v) = %d, %d", a, b, n, e)
			}
		}
	}
}

// P3.6
func TestHullMeetAndOrder(t *testing.T) {
	for _, x := range []struct {
		a, b, hull, meet api.Iv
		order            int
	}{
		{iv(0, 5), iv(5, 9), iv(0, 9), iv(5, 5), 0},
		{iv(0, 4), iv(5, 9), iv(0, 9), api.Iv{}, -1},
		{iv(5, 9), iv(0, 4), iv(0, 9), api.Iv{}, 1},
		{iv(0, 9), iv(3, 4), iv(0, 9), iv(3, 4), 0},
		{iv(3, 3), iv(3, 3), iv(3, 3), iv(3, 3), 0},
		{iv(-most, -most), iv(most, most), iv(-most, most), api.Iv{}, -1},
		{iv(most, most), iv(-most, most-1), iv(-most, most), api.Iv{}, 1},
		{iv(-most, 0), iv(0, most), iv(-most, most), iv(0, 0), 0},
		{iv(-most, most), iv(-7, -7), iv(-most, most), iv(-7, -7), 0},
	} {
		if got, e := Hull(x.a, x.b); got != x.hull || e != api.OK {
			t.Errorf("Hull(%v, %v) = %v, %d", x.a, x.b, got, e)
		}
		wantE := api.OK
		if x.order != 0 {
			wantE = api.ErrNone
		}
		if got, e := Meet(x.a, x.b); got != x.meet || e != wantE {
			t.Errorf("Meet(%v, %v) = %v, %d", x.a, x.b, got, e)
		}
		if n, e := Order(x.a, x.b); n != x.order || e != api.OK {
			t.Errorf("Order(%v, %v) = %d, %d", x.a, x.b, n, e)
		}
	}
}
