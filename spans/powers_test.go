package spans

import (
	"math"
	"testing"

	"quintadena/api"
	"quintadena/wide"
)

// powers returns the k-th powers of l.
func powers(l []api.Quo, k int) []api.Quo {
	var all []api.Quo
	for _, x := range l {
		all = append(all, sure(wide.QPow(x, k)))
	}
	return all
}

// P3.4: Pow of all intervals with small bounds, by their members, and of many others.
func TestPow(t *testing.T) {
	look := func(a api.Iv, l []api.Quo, k int) {
		t.Helper()
		got, e := Pow(a, k)
		if want, wantE := spanOf(powers(l, k)); got != want || e != wantE {
			t.Errorf("Pow(%v, %d) = %v, %d, want %v, %d", a, k, got, e, want, wantE)
		}
	}
	for _, a := range narrow(4) {
		for k := range 9 {
			look(a, members(a, 2), k)
		}
		for k := range 63 {
			look(a, bounds(a), k)
		}
	}
	for _, a := range intervals(50) {
		for _, k := range []int{0, 1, 2, 3, 4, 5, 20, 61, 62} {
			look(a, bounds(a), k)
		}
	}
	// Around the greatest numbers whose powers are allowed.
	for k := 1; k <= 62; k++ {
		edge := int64(math.Pow(most, 1/float64(k)))
		for n := max(0, edge-2); n <= min(most, edge+2); n++ {
			for _, a := range []api.Iv{iv(n, n), iv(-n, -n), iv(-n, n), iv(0, n), iv(-n, 0)} {
				look(a, bounds(a), k)
			}
		}
	}
}

// compared compares r^k with n.
func compared(r int64, k int, n int64) int {
	p := sure(wide.Pow(wide.Of(uint64(r)), k))
	return sure(wide.Cmp(p, wide.Of(uint64(n))))
}

// checkRoot looks whether a result is the span of the k-th roots of a: from the greatest number whose power is at most the one bound to the least one whose power is at least the other.
func checkRoot(t *testing.T, a api.Iv, k int) {
	t.Helper()
	got, e := Root(a, k)
	if e != api.OK || got.Lo < 0 || got.Hi < 0 {
		t.Errorf("Root(%v, %d) = %v, %d", a, k, got, e)
		return
	}
	if compared(got.Lo, k, a.Lo) > 0 || compared(got.Lo+1, k, a.Lo) <= 0 {
		t.Errorf("Root(%v, %d) = %v: its Lo", a, k, got)
	}
	if compared(got.Hi, k, a.Hi) < 0 || got.Hi > 0 && compared(got.Hi-1, k, a.Hi) >= 0 {
		t.Errorf("Root(%v, %d) = %v: its Hi", a, k, got)
	}
}

// P3.4: Root.
func TestRoot(t *testing.T) {
	for lo := range int64(40) {
		for hi := lo; hi < 40; hi++ {
			for k := 1; k <= 8; k++ {
				checkRoot(t, iv(lo, hi), k)
			}
		}
	}
	for _, a := range intervals(200) {
		for _, k := range []int{1, 2, 3, 4, 7, 31, 61, 62} {
			if a.Lo >= 0 {
				checkRoot(t, a, k)
			} else {
				got, e := Root(a, k)
				wantError(t, "Root", got, e, api.ErrDown)
			}
		}
	}
	// Powers, and the numbers beside them.
	for k := 1; k <= 62; k++ {
		for _, r := range []int64{2, 3, 5, 10, 1000, 65536, 1664510, 1 << 31, most} {
			p, e := Pow(iv(r, r), k)
			if e != api.OK {
				continue
			}
			for n := p.Lo - 1; n <= min(most, p.Lo+1); n++ {
				checkRoot(t, iv(n, n), k)
				checkRoot(t, iv(1, n), k)
			}
		}
	}
}

// P3.4
func TestPowerAndRootExamples(t *testing.T) {
	for _, x := range []struct {
		name    string
		call    func(a api.Iv, k int) (api.Iv, api.Errno)
		a, want api.Iv
		k       int
		e       api.Errno
	}{
		{"Pow", Pow, iv(-3, 2), iv(0, 9), 2, api.OK},
		{"Pow", Pow, iv(-2, 3), iv(0, 9), 2, api.OK},
		{"Pow", Pow, iv(-3, 2), iv(-27, 8), 3, api.OK},
		{"Pow", Pow, iv(-3, -2), iv(4, 9), 2, api.OK},
		{"Pow", Pow, iv(-3, 0), iv(0, 9), 2, api.OK},
		{"Pow", Pow, iv(-3, 2), iv(1, 1), 0, api.OK},
		{"Pow", Pow, iv(0, 0), iv(1, 1), 0, api.OK},
		{"Pow", Pow, iv(-most, most), iv(1, 1), 0, api.OK},
		{"Pow", Pow, iv(-most, most), iv(-most, most), 1, api.OK},
		{"Pow", Pow, iv(-1, 1), iv(-1, 1), 61, api.OK},
		{"Pow", Pow, iv(-1, 1), iv(0, 1), 62, api.OK},
		{"Pow", Pow, iv(2, 2), iv(most, most), 62, api.OK},
		{"Pow", Pow, iv(-2, 0), iv(0, most), 62, api.OK},
		{"Pow", Pow, iv(-4, 0), iv(-most, 0), 31, api.OK},
		{"Pow", Pow, iv(2, 3), api.Iv{}, 62, api.ErrRange},
		{"Pow", Pow, iv(-3, 2), api.Iv{}, 61, api.ErrRange},
		{"Pow", Pow, iv(-most, 0), api.Iv{}, 2, api.ErrRange},
		{"Root", Root, iv(10, 10), iv(3, 4), 2, api.OK},
		{"Root", Root, iv(9, 16), iv(3, 4), 2, api.OK},
		{"Root", Root, iv(8, 17), iv(2, 5), 2, api.OK},
		{"Root", Root, iv(0, 0), iv(0, 0), 5, api.OK},
		{"Root", Root, iv(0, 1), iv(0, 1), 62, api.OK},
		{"Root", Root, iv(1, most), iv(1, 2), 62, api.OK},
		{"Root", Root, iv(most, most), iv(2, 2), 62, api.OK},
		{"Root", Root, iv(most-1, most), iv(1, 2), 62, api.OK},
		{"Root", Root, iv(7, most), iv(7, most), 1, api.OK},
		{"Root", Root, iv(most-1, most), iv(1<<31-1, 1<<31), 2, api.OK},
		{"Root", Root, iv(-1, 4), api.Iv{}, 2, api.ErrDown},
		{"Root", Root, iv(-1, -1), api.Iv{}, 3, api.ErrDown},
		{"Root", Root, iv(-1, 4), api.Iv{}, 1, api.ErrDown},
	} {
		if got, e := x.call(x.a, x.k); got != x.want || e != x.e {
			t.Errorf("%s(%v, %d) = %v, %d, want %v, %d", x.name, x.a, x.k, got, e, x.want, x.e)
		}
	}
}

// P3.4: exponents that are not valid, whatever else is wrong.
func TestBadExponents(t *testing.T) {
	for _, a := range []api.Iv{iv(0, 0), iv(1, 2), iv(-1, 4), iv(-most, most)} {
		for _, k := range []int{math.MinInt, -1, 63, 64, math.MaxInt} {
			got, e := Pow(a, k)
			wantError(t, "Pow", got, e, api.ErrArg)
			got, e = Root(a, k)
			wantError(t, "Root", got, e, api.ErrArg)
		}
		got, e := Root(a, 0)
		wantError(t, "Root", got, e, api.ErrArg)
	}
}
