package ratios

import (
	"math"
	"math/rand/v2"
	"slices"
	"testing"

	"quintadena/api"
)

// plain returns ratios whose products have no errors, some of them the same.
func plain(source *rand.Rand) (a, b, c api.Ratio) {
	l := []api.Ratio{one(), sure(Of(3, 2)), sure(Of(2, 1)), sure(Of(81, 80)), sure(Of(531441, 524288))}
	pick := func() api.Ratio {
		if source.IntN(4) == 0 {
			return l[source.IntN(len(l))]
		}
		return anyRatio(source, 50, 10)
	}
	return pick(), pick(), pick()
}

// P4.8: a group.
func TestGroup(t *testing.T) {
	source := rand.New(rand.NewPCG(4, 16))
	for range 2000 {
		a, b, c := plain(source)
		ab := sure(Mul(a, b))
		if sure(Mul(b, a)) != ab {
			t.Errorf("%v and %v do not commute", a, b)
		}
		if sure(Mul(ab, c)) != sure(Mul(a, sure(Mul(b, c)))) {
			t.Errorf("%v, %v and %v do not associate", a, b, c)
		}
		if sure(Div(ab, b)) != a || sure(Mul(sure(Div(a, b)), b)) != a || sure(Div(a, a)) != one() || sure(Mul(a, one())) != a {
			t.Errorf("Div does not undo Mul: %v, %v", a, b)
		}
		n, m, d := source.IntN(21)-10, source.IntN(21)-10, 1+source.IntN(8)
		if sure(Pow(a, n+m, d)) != sure(Mul(sure(Pow(a, n, d)), sure(Pow(a, m, d)))) {
			t.Errorf("the powers of %v with %d, %d over %d", a, n, m, d)
		}
	}
}

// P4.8: an order that products keep.
func TestOrder(t *testing.T) {
	source := rand.New(rand.NewPCG(4, 17))
	for range 2000 {
		a, b, c := plain(source)
		ab, bc, ac := sure(Cmp(a, b)), sure(Cmp(b, c)), sure(Cmp(a, c))
		if sure(Cmp(b, a)) != -ab || ab == 0 != (a == b) {
			t.Errorf("Cmp of %v and %v", a, b)
		}
		if ab <= 0 && bc <= 0 && ac > 0 {
			t.Errorf("Cmp of %v, %v and %v", a, b, c)
		}
		if sure(Cmp(sure(Mul(a, c)), sure(Mul(b, c)))) != ab {
			t.Errorf("Cmp of %v and %v, times %v", a, b, c)
		}
	}
}

// centsOf returns the Cents of a, without an error.
func centsOf(a api.Ratio) int64 {
	m, _, e := Cents(a)
	return sure(m, e)
}

// P4.9
func TestSumsOfCents(t *testing.T) {
	source := rand.New(rand.NewPCG(4, 18))
	var seen [2]int
	for range 2000 {
		a, b, _ := plain(source)
		more := centsOf(sure(Mul(a, b))) - centsOf(a) - centsOf(b)
		if more < 0 || more > 1 {
			t.Fatalf("the Cents of %v times %v are %d more", a, b, more)
		}
		seen[more]++
		if sure(Cmp(a, b)) > 0 && centsOf(a) < centsOf(b) {
			t.Errorf("%v has less Cents than %v", a, b)
		}
		r, octaves, e := Fold(a)
		if sure(centsOf(r), e) != centsOf(a)-1200000*int64(octaves) || centsOf(r) < 0 || centsOf(r) >= 1200000 {
			t.Errorf("%v and %v, which is folded, have %d and %d", a, r, centsOf(a), centsOf(r))
		}
	}
	if seen[0] == 0 || seen[1] == 0 {
		t.Errorf("sums of Cents: %v", seen)
	}
}

// P4.3 and the meaning of Terms: they have the same Cents, and compare as the ratio.
func TestTermsMean(t *testing.T) {
	source := rand.New(rand.NewPCG(4, 19))
	for range 300 {
		a, _, _ := plain(source)
		l, den, _ := Terms(a)
		m, exact, e := Floor(l, den, 1200000)
		wantM, wantExact, wantE := Cents(a)
		if m != wantM || exact != wantExact || e != wantE || sure(Sign(l)) != sure(Cmp(a, one())) {
			t.Errorf("the terms of %v are %v", a, l)
		}
	}
}

// anyNumber returns numbers of all sizes, near the limits, and beyond.
func anyNumber(source *rand.Rand) int64 {
	l := []int64{0, 1, -1, 2, 1000, 1001, -1000, -1001, 100000, 100001, -100000, 1000000, 1000001, 10000000, 10000001, 1000000000, 1000000001, -1000000000, 1000000000000, 1000000000001, math.MaxInt64, math.MinInt64}
	if source.IntN(3) > 0 {
		return l[source.IntN(len(l))]
	}
	return int64(source.Uint64() >> source.IntN(64))
}

// anyTerms returns terms, most of which are valid.
func anyTerms(source *rand.Rand) []api.Term {
	l := termsOf(source, 17)
	if len(l) > 0 && source.IntN(4) == 0 {
		l[source.IntN(len(l))] = api.Term{N: anyNumber(source), Num: anyNumber(source)}
	}
	return l
}

// P4.10, R1, R2: any arguments are accepted, and not modified; with an error, all other results are zero.
func TestAnyArguments(t *testing.T) {
	source := rand.New(rand.NewPCG(4, 20))
	look := func(name string, zero bool, e api.Errno, allowed ...api.Errno) {
		t.Helper()
		if e != api.OK && !zero || e != api.OK && !slices.Contains(allowed, e) {
			t.Errorf("%s: %v, %d", name, zero, e)
		}
	}
	for range 1000 {
		l := anyTerms(source)
		before := slices.Clone(l)
		s, e := Sign(l)
		look("Sign", s == 0, e, api.ErrLong, api.ErrArg)
		m, exact, e := Floor(l, anyNumber(source), anyNumber(source))
		look("Floor", m == 0 && !exact, e, api.ErrLong, api.ErrArg, api.ErrRange)
		m, exact, e = Power(anyNumber(source), l, anyNumber(source))
		look("Power", m == 0 && !exact, e, api.ErrLong, api.ErrArg, api.ErrRange)
		if !slices.Equal(l, before) {
			t.Errorf("%v became %v", before, l)
		}
		var r api.Ratio
		for i := range r.Num {
			r.Num[i] = int(anyNumber(source))
		}
		r.Den = int(anyNumber(source))
		look("Check", true, Check(r), api.ErrArg, api.ErrForm)
		q, e := Of(anyNumber(source), anyNumber(source))
		look("Of", q == (api.Ratio{}), e, api.ErrArg, api.ErrRange)
		q, e = Pow(anyRatio(source, 100000, 1000), int(anyNumber(source)), int(anyNumber(source)))
		look("Pow", q == (api.Ratio{}), e, api.ErrArg, api.ErrRange)
		q, e = Mul(r, r)
		look("Mul", q == (api.Ratio{}), e, api.ErrArg, api.ErrForm, api.ErrRange)
	}
}

// P4.10: also room behind a slice is not modified.
func TestRoomOfArguments(t *testing.T) {
	l := product(3, 12, 2, -19, 17, 5, 19, 7)
	before := slices.Clone(l)
	Sign(l[:2])
	Floor(l[:2], 1, 1200000)
	Power(440000, l[:2], 12)
	Sign(product(6, 1, 2, -1, 3, -1))
	if !slices.Equal(l, before) {
		t.Errorf("the terms became %v", l)
	}
	one := product(6, 1, 2, -1, 3, -1, 5, 0)[:3]
	Sign(one)
	if !slices.Equal(one[:4], product(6, 1, 2, -1, 3, -1, 5, 0)) {
		t.Errorf("the terms became %v", one[:4])
	}
}

// P4.10: results are new memory.
func TestNewMemory(t *testing.T) {
	a := sure(Of(15, 8))
	first, _, _ := Terms(a)
	second, _, _ := Terms(a)
	first[0] = api.Term{N: 7, Num: 7}
	third, _, _ := Terms(a)
	want := product(2, -3, 3, 1, 5, 1)
	if !slices.Equal(second, want) || !slices.Equal(third, want) {
		t.Errorf("the terms of 15/8 are %v, then %v", second, third)
	}
}
