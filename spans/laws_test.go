package spans

import (
	"math/rand/v2"
	"testing"

	"quintadena/api"
	"quintadena/wide"
)

// member returns a member of a, mostly no whole number.
func member(source *rand.Rand, a api.Iv) api.Quo {
	part := quotient(source.Int64N(1001), 1000)
	width := sure(wide.QSub(number(a.Hi), number(a.Lo)))
	return sure(wide.QAdd(number(a.Lo), sure(wide.QMul(part, width))))
}

// contains reports whether x is a member of a.
func contains(a api.Iv, x api.Quo) bool {
	return sure(wide.QCmp(number(a.Lo), x)) <= 0 && sure(wide.QCmp(x, number(a.Hi))) <= 0
}

// exactBinaries returns what the functions of two intervals do to two members.
func exactBinaries() map[string]func(x, y api.Quo) (api.Quo, api.Errno) {
	return map[string]func(x, y api.Quo) (api.Quo, api.Errno){
		"Add":  wide.QAdd,
		"Sub":  wide.QSub,
		"Mul":  wide.QMul,
		"Div":  wide.QDiv,
		"Hull": func(x, y api.Quo) (api.Quo, api.Errno) { return y, api.OK },
	}
}

// exactUnaries returns what the functions of one interval do to a member; pi may be anything between its bounds.
func exactUnaries(pi api.Quo) map[string]func(x api.Quo) api.Quo {
	return map[string]func(x api.Quo) api.Quo{
		"Pi":          func(x api.Quo) api.Quo { return exactProduct(x, pi) },
		"Disc":        func(x api.Quo) api.Quo { return exactDisc(x, pi) },
		"Pow 2":       func(x api.Quo) api.Quo { return exactProduct(x, x) },
		"Pow 1":       func(x api.Quo) api.Quo { return x },
		"Root 1":      func(x api.Quo) api.Quo { return x },
		"Scale 2 / 1": func(x api.Quo) api.Quo { return exactProduct(x, number(2)) },
	}
}

// pairs calls do with many pairs of intervals.
func pairs(do func(a, b api.Iv)) {
	for _, a := range intervals(30) {
		for _, b := range intervals(31) {
			do(a, b)
		}
	}
	for _, a := range narrow(3) {
		for _, b := range narrow(3) {
			do(a, b)
		}
	}
}

// P3.7 and T1: what is computed from members is a member.
func TestMembersStayInside(t *testing.T) {
	source := rand.New(rand.NewPCG(7, 7))
	pairs(func(a, b api.Iv) {
		x, y := member(source, a), member(source, b)
		for name, exact := range exactBinaries() {
			got, e := binaries()[name](a, b)
			if e != api.OK {
				continue
			}
			if z := sure(exact(x, y)); !contains(got, z) {
				t.Errorf("%s(%v, %v) = %v does not contain %v", name, a, b, got, z)
			}
		}
	})
	calls := unaries()
	for _, a := range append(intervals(200), narrow(9)...) {
		x := member(source, a)
		pi := sure(wide.QAdd(exactPi()[0], quotient(source.Int64N(8), 7*api.PiOne)))
		for name, exact := range exactUnaries(pi) {
			got, e := calls[name](a)
			if z := exact(x); e == api.OK && !contains(got, z) {
				t.Errorf("%s(%v) = %v does not contain %v", name, a, got, z)
			}
		}
	}
}

// part returns an interval within a.
func part(source *rand.Rand, a api.Iv) api.Iv {
	x := a.Lo + int64(source.Uint64N(uint64(a.Hi-a.Lo)+1))
	y := a.Lo + int64(source.Uint64N(uint64(a.Hi-a.Lo)+1))
	return iv(min(x, y), max(x, y))
}

// P3.8: intervals within others have results within theirs.
func TestPartsHaveResultsInside(t *testing.T) {
	source := rand.New(rand.NewPCG(8, 8))
	pairs(func(a, b api.Iv) {
		c, d := part(source, a), part(source, b)
		for name, call := range binaries() {
			whole, e := call(a, b)
			if e != api.OK || name == "Order" {
				continue
			}
			got, e := call(c, d)
			if name == "Meet" && e == api.ErrNone {
				continue
			}
			if e != api.OK || !inside(got, whole) {
				t.Errorf("%s: %v, %v have %v; %v, %v have %v, %d", name, a, b, whole, c, d, got, e)
			}
		}
	})
	for _, a := range append(intervals(200), narrow(9)...) {
		b := part(source, a)
		for name, call := range unaries() {
			whole, e := call(a)
			if e != api.OK {
				continue
			}
			if got, e := call(b); e != api.OK || !inside(got, whole) {
				t.Errorf("%s: %v has %v; %v has %v, %d", name, a, whole, b, got, e)
			}
		}
	}
}

// P3.8: the order of both, and what undoes what.
func TestOrderOfTermsAndInverses(t *testing.T) {
	pairs(func(a, b api.Iv) {
		for name, call := range map[string]binary{"Add": Add, "Mul": Mul, "Hull": Hull, "Meet": Meet} {
			x, e := call(a, b)
			y, f := call(b, a)
			if x != y || e != f {
				t.Errorf("%s of %v and %v depends on their order", name, a, b)
			}
		}
		if s, e := Add(a, b); e == api.OK {
			if d, e := Sub(s, b); e == api.OK && !inside(a, d) {
				t.Errorf("Sub(Add(%v, %v)) = %v", a, b, d)
			}
		}
		if q, e := Div(a, b); e == api.OK {
			if p, e := Mul(q, b); e == api.OK && !inside(a, p) {
				t.Errorf("Mul(Div(%v, %v)) = %v", a, b, p)
			}
		}
	})
}

// P3.9
func TestRootOfPow(t *testing.T) {
	for _, a := range append(intervals(300), narrow(9)...) {
		for k := 1; k <= 62; k++ {
			p, e := Pow(a, k)
			if a.Lo < 0 || e != api.OK {
				continue
			}
			if r, e := Root(p, k); r != a || e != api.OK {
				t.Errorf("Root(Pow(%v, %d)) = %v, %d", a, k, r, e)
			}
		}
	}
}

// P3.9
func TestOrderAndMeet(t *testing.T) {
	pairs(func(a, b api.Iv) {
		n, e := Order(a, b)
		m, f := Order(b, a)
		if n != -m || e != api.OK || f != api.OK {
			t.Errorf("Order of %v and %v: %d and %d", a, b, n, m)
		}
		if got, e := Meet(a, b); (e == api.ErrNone) != (n != 0) {
			t.Errorf("Order(%v, %v) = %d, but Meet is %v, %d", a, b, n, got, e)
		}
	})
}
