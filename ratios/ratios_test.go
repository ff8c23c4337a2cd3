package ratios

import (
	"math"
	"math/big"
	"math/rand/v2"
	"testing"

	"quintadena/api"
)

// unfit returns ratios with a number that is not in its range; some of them have a common divisor besides.
func unfit() []api.Ratio {
	l := []api.Ratio{{}, {Den: -1}, {Den: 1001}, {Num: [6]int{1}, Den: 0}, {Num: [6]int{2, 4}, Den: 2000}, {Den: math.MinInt}, {Num: [6]int{1}, Den: math.MaxInt}}
	for i := range 6 {
		for _, n := range []int{-100001, 100001, 200000, math.MinInt, math.MaxInt} {
			r := api.Ratio{Den: 1 + i%2}
			r.Num[i] = n
			l = append(l, r)
		}
	}
	return l
}

// unreduced returns ratios whose numbers are in their ranges, but have a common divisor.
func unreduced() []api.Ratio {
	l := []api.Ratio{{Den: 2}, {Den: 1000}, {Num: [6]int{2}, Den: 2}, {Num: [6]int{-100000, 100000, -100000, 100000, -100000, 100000}, Den: 1000}, {Num: [6]int{5: -3}, Den: 6}}
	for i := range 6 {
		r := api.Ratio{Den: 36}
		r.Num[i] = 9
		l = append(l, r)
	}
	return l
}

// P4.3
func TestCheck(t *testing.T) {
	source := rand.New(rand.NewPCG(4, 7))
	for _, r := range ratiosOf(source, 100) {
		if e := Check(r); e != api.OK {
			t.Errorf("Check(%v) = %d", r, e)
		}
	}
	for _, r := range []api.Ratio{{Num: [6]int{6, 10, 15}, Den: 30}, {Num: [6]int{0, 0, 0, 0, 0, 999}, Den: 1000}, {Num: [6]int{-5, 10, -15, 20, -25, 1}, Den: 5}, {Num: [6]int{3}, Den: 1}} {
		if e := Check(r); e != api.OK {
			t.Errorf("Check(%v) = %d", r, e)
		}
	}
	for _, r := range unfit() {
		if e := Check(r); e != api.ErrArg {
			t.Errorf("Check(%v) = %d", r, e)
		}
	}
	for _, r := range unreduced() {
		if e := Check(r); e != api.ErrForm {
			t.Errorf("Check(%v) = %d", r, e)
		}
	}
}

// powerOfPrimes returns the product of powers of the primes with these exponents.
func powerOfPrimes(l [6]int) *big.Rat {
	num, den := number(1), number(1)
	for i, p := range []int64{2, 3, 5, 7, 11, 13} {
		if l[i] >= 0 {
			num.Mul(num, new(big.Int).Exp(number(p), number(int64(l[i])), nil))
		} else {
			den.Mul(den, new(big.Int).Exp(number(p), number(int64(-l[i])), nil))
		}
	}
	return new(big.Rat).SetFrac(num, den)
}

// P4.3: Of, with quotients of primes, other primes that cancel, and ones that do not.
func TestOf(t *testing.T) {
	for _, c := range []struct {
		num, den int64
		want     api.Ratio
		e        api.Errno
	}{
		{6, 4, api.Ratio{Num: [6]int{-1, 1}, Den: 1}, api.OK},
		{1, 1, one(), api.OK},
		{1000000000000, 1, api.Ratio{Num: [6]int{12, 0, 12}, Den: 1}, api.OK},
		{1, 1000000000000, api.Ratio{Num: [6]int{-12, 0, -12}, Den: 1}, api.OK},
		{1000000000000, 1000000000000, one(), api.OK},
		{30030, 1, api.Ratio{Num: [6]int{1, 1, 1, 1, 1, 1}, Den: 1}, api.OK},
		{549755813888, 847288609443, api.Ratio{Num: [6]int{39, -25}, Den: 1}, api.OK},
		{34, 17, api.Ratio{Num: [6]int{1}, Den: 1}, api.OK},
		{999999999989, 999999999989, one(), api.OK},
		{17, 1, api.Ratio{}, api.ErrRange},
		{1, 17, api.Ratio{}, api.ErrRange},
		{17, 19, api.Ratio{}, api.ErrRange},
		{289, 34, api.Ratio{}, api.ErrRange},
		{999999999989, 2, api.Ratio{}, api.ErrRange},
		{0, 1, api.Ratio{}, api.ErrArg},
		{1, 0, api.Ratio{}, api.ErrArg},
		{-2, -1, api.Ratio{}, api.ErrArg},
		{17, 1000000000001, api.Ratio{}, api.ErrArg},
		{1000000000001, 17, api.Ratio{}, api.ErrArg},
		{math.MinInt64, math.MaxInt64, api.Ratio{}, api.ErrArg},
	} {
		if r, e := Of(c.num, c.den); r != c.want || e != c.e {
			t.Errorf("Of(%d, %d) = %v, %d", c.num, c.den, r, e)
		}
	}
	for num := int64(1); num <= 70; num++ {
		for den := int64(1); den <= 70; den++ {
			r, e := Of(num, den)
			quotient := big.NewRat(num, den)
			largest := int64(1)
			for _, n := range []int64{quotient.Num().Int64(), quotient.Denom().Int64()} {
				for p := range factorsOf(n) {
					largest = max(largest, p)
				}
			}
			if largest > 13 != (e == api.ErrRange) || e == api.OK && (r.Den != 1 || powerOfPrimes(r.Num).Cmp(quotient) != 0) {
				t.Errorf("Of(%d, %d) = %v, %d", num, den, r, e)
			}
		}
	}
}

// P4.3: Terms are primes in order, without those whose exponent is 0.
func TestTerms(t *testing.T) {
	source := rand.New(rand.NewPCG(4, 8))
	for _, r := range ratiosOf(source, 100) {
		l, den, e := Terms(r)
		if den != int64(r.Den) || e != api.OK {
			t.Errorf("Terms(%v) = %v, %d, %d", r, l, den, e)
		}
		var num [6]int
		last := int64(0)
		for _, term := range l {
			i := map[int64]int{2: 1, 3: 2, 5: 3, 7: 4, 11: 5, 13: 6}[term.N] - 1
			if i < 0 || term.N <= last || term.Num == 0 {
				t.Fatalf("Terms(%v) = %v", r, l)
			}
			num[i], last = int(term.Num), term.N
		}
		if num != r.Num {
			t.Errorf("Terms(%v) = %v", r, l)
		}
	}
}

// combine returns the ratio whose exponents are those of a, and n / d times those of b, besides.
func combine(a, b api.Ratio, n, d int64) (api.Ratio, api.Errno) {
	l := exponentsOf(a)
	for i, x := range exponentsOf(b) {
		l[i].Add(l[i], x.Mul(x, big.NewRat(n, d)))
	}
	return ratioOf(l)
}

// P4.4: Mul and Div, against fractions of exponents; some results are not valid by their numbers.
func TestMulAndDiv(t *testing.T) {
	source := rand.New(rand.NewPCG(4, 9))
	l := ratiosOf(source, 40)
	errors := 0
	for _, a := range l {
		for _, b := range l {
			got, e := Mul(a, b)
			if want, wantE := combine(a, b, 1, 1); got != want || e != wantE {
				t.Errorf("Mul(%v, %v) = %v, %d, want %v, %d", a, b, got, e, want, wantE)
			}
			got, e = Div(a, b)
			if want, wantE := combine(a, b, -1, 1); got != want || e != wantE {
				t.Errorf("Div(%v, %v) = %v, %d, want %v, %d", a, b, got, e, want, wantE)
			}
			if e != api.OK {
				errors++
			}
		}
	}
	if errors == 0 || errors == len(l)*len(l) {
		t.Errorf("%d of %d have an error", errors, len(l)*len(l))
	}
}

// P4.4: Mul and Div at the limits of numbers.
func TestMulAtLimits(t *testing.T) {
	most, half := api.Ratio{Num: [6]int{100000}, Den: 1}, api.Ratio{Num: [6]int{1: 1}, Den: 2}
	two := sure(Of(2, 1))
	for _, c := range []struct {
		a, b, want api.Ratio
		e          api.Errno
	}{
		{most, one(), most, api.OK},
		{most, two, api.Ratio{}, api.ErrRange},
		{most, most, api.Ratio{}, api.ErrRange},
		{sure(Div(most, two)), two, most, api.OK},
		{most, half, api.Ratio{}, api.ErrRange},
		{api.Ratio{Num: [6]int{50000}, Den: 1}, half, api.Ratio{Num: [6]int{100000, 1}, Den: 2}, api.OK},
		{half, half, sure(Of(3, 1)), api.OK},
		{api.Ratio{Num: [6]int{1}, Den: 25}, api.Ratio{Num: [6]int{1}, Den: 40}, api.Ratio{Num: [6]int{13}, Den: 200}, api.OK},
		{api.Ratio{Num: [6]int{1}, Den: 8}, api.Ratio{Num: [6]int{1}, Den: 125}, api.Ratio{Num: [6]int{133}, Den: 1000}, api.OK},
		{api.Ratio{Num: [6]int{1}, Den: 7}, api.Ratio{Num: [6]int{1}, Den: 143}, api.Ratio{}, api.ErrRange},
		{api.Ratio{Num: [6]int{1}, Den: 7}, api.Ratio{Num: [6]int{1: 1}, Den: 143}, api.Ratio{}, api.ErrRange},
	} {
		if got, e := Mul(c.a, c.b); got != c.want || e != c.e {
			t.Errorf("Mul(%v, %v) = %v, %d", c.a, c.b, got, e)
		}
		if got, e := Mul(c.b, c.a); got != c.want || e != c.e {
			t.Errorf("Mul(%v, %v) = %v, %d", c.b, c.a, got, e)
		}
		if got, e := Div(c.a, sure(Pow(c.b, -1, 1))); got != c.want || e != c.e {
			t.Errorf("Div(%v, 1 / %v) = %v, %d", c.a, c.b, got, e)
		}
	}
}

// P4.4: Pow, and n and d at their limits.
func TestPow(t *testing.T) {
	source := rand.New(rand.NewPCG(4, 10))
	errors := 0
	for _, a := range ratiosOf(source, 100) {
		for _, n := range []int{-1000, -12, -1, 0, 1, 2, 7, 1000, source.IntN(2001) - 1000} {
			for _, d := range []int{-1000, -3, -1, 1, 4, 1000, 1 + source.IntN(1000)} {
				got, e := Pow(a, n, d)
				if want, wantE := combine(one(), a, int64(n), int64(d)); got != want || e != wantE {
					t.Errorf("Pow(%v, %d, %d) = %v, %d, want %v, %d", a, n, d, got, e, want, wantE)
				}
				if e != api.OK {
					errors++
				}
			}
		}
	}
	if errors == 0 {
		t.Error("no power is too great")
	}
	root := sure(Pow(sure(Of(5, 1)), 1, 4))
	if root != (api.Ratio{Num: [6]int{2: 1}, Den: 4}) || sure(Pow(root, -4, -1)) != sure(Of(5, 1)) {
		t.Errorf("the fourth root of 5 is %v", root)
	}
	for _, c := range [][2]int{{1, 0}, {0, 0}, {1001, 1}, {-1001, 1}, {1, 1001}, {1, -1001}, {1001, 0}, {math.MinInt, 1}, {1, math.MinInt}, {math.MaxInt, math.MaxInt}} {
		// The error of a power that is too great comes later.
		for _, a := range []api.Ratio{one(), root, {Num: [6]int{100000}, Den: 999}} {
			if got, e := Pow(a, c[0], c[1]); got != (api.Ratio{}) || e != api.ErrArg {
				t.Errorf("Pow(%v, %d, %d) = %v, %d", a, c[0], c[1], got, e)
			}
		}
	}
}

// The bad arguments of all functions of ratios: the error of a comes before that of b, and both before what else is wrong.
func TestBadRatios(t *testing.T) {
	valid := api.Ratio{Num: [6]int{100000}, Den: 999}
	look := func(a, b api.Ratio, want api.Errno) {
		t.Helper()
		for name, call := range map[string]func(a, b api.Ratio) (api.Ratio, api.Errno){"Mul": Mul, "Div": Div} {
			if r, e := call(a, b); r != (api.Ratio{}) || e != want {
				t.Errorf("%s(%v, %v) = %v, %d, want %d", name, a, b, r, e, want)
			}
		}
		if s, e := Cmp(a, b); s != 0 || e != want {
			t.Errorf("Cmp(%v, %v) = %d, %d, want %d", a, b, s, e, want)
		}
	}
	single := func(a api.Ratio, want api.Errno) {
		t.Helper()
		for _, n := range []int{1, 0, 2000} {
			if r, e := Pow(a, n, n); r != (api.Ratio{}) || e != want {
				t.Errorf("Pow(%v, %d, %d) = %v, %d, want %d", a, n, n, r, e, want)
			}
		}
		if r, n, e := Fold(a); r != (api.Ratio{}) || n != 0 || e != want {
			t.Errorf("Fold(%v) = %v, %d, %d, want %d", a, r, n, e, want)
		}
		if m, exact, e := Cents(a); m != 0 || exact || e != want {
			t.Errorf("Cents(%v) = %d, %v, %d, want %d", a, m, exact, e, want)
		}
		if l, den, e := Terms(a); len(l) != 0 || den != 0 || e != want {
			t.Errorf("Terms(%v) = %v, %d, %d, want %d", a, l, den, e, want)
		}
		if s, e := Text(a); s != "" || e != want {
			t.Errorf("Text(%v) = %q, %d, want %d", a, s, e, want)
		}
	}
	for want, bad := range map[api.Errno][]api.Ratio{api.ErrArg: unfit(), api.ErrForm: unreduced()} {
		for _, a := range bad {
			single(a, want)
			look(valid, a, want)
			for _, others := range [][]api.Ratio{unfit(), unreduced(), {valid}} {
				for _, b := range others {
					look(a, b, want)
				}
			}
		}
	}
}
