package wide

import (
	"math"
	"math/big"
	"math/rand/v2"
	"slices"
	"testing"

	"quintadena/api"
)

// quo returns the fraction n / d, which is in lowest terms.
func quo(n int64, d uint64) api.Quo {
	if n < 0 {
		return api.Quo{Neg: true, Num: Of(uint64(-n)), Den: Of(d)}
	}
	return api.Quo{Num: Of(uint64(n)), Den: Of(d)}
}

func ratOf(q api.Quo) *big.Rat {
	r := new(big.Rat).SetFrac(bigOf(q.Num), bigOf(q.Den))
	if q.Neg {
		r.Neg(r)
	}
	return r
}

// fraction returns the proper fraction r.
func fraction(r *big.Rat) api.Quo {
	return api.Quo{Neg: r.Sign() < 0, Num: natOf(new(big.Int).Abs(r.Num())), Den: natOf(r.Denom())}
}

func equal(a, b api.Quo) bool {
	return a.Neg == b.Neg && slices.Equal(a.Num, b.Num) && slices.Equal(a.Den, b.Den)
}

// sameFraction compares a result with what it must be.
func sameFraction(t *testing.T, what string, got api.Quo, e api.Errno, want *big.Rat) {
	t.Helper()
	wantQ, wantE := fraction(want), api.OK
	if len(wantQ.Num) > 512 || len(wantQ.Den) > 512 {
		wantQ, wantE = api.Quo{}, api.ErrLong
	}
	if !equal(got, wantQ) || e != wantE {
		t.Errorf("%s: %d / %d limbs, %v, %d, want %d / %d limbs, %v, %d", what, len(got.Num), len(got.Den), got.Neg, e, len(wantQ.Num), len(wantQ.Den), wantQ.Neg, wantE)
	}
}

// fractions returns fractions of every kind and of up to the given number of limbs.
func fractions(limbs int) []api.Quo {
	l := []api.Quo{quo(0, 1), quo(1, 1), quo(-1, 1), quo(1, 2), quo(-1, 2), quo(1, 3), quo(-2, 3), quo(1, 6), quo(7, 2), quo(-7, 2), quo(-3, 1), quo(1<<40, 3), quo(-3, 1<<40), quo(math.MaxInt64, math.MaxUint64), {Num: ones(32 * limbs), Den: api.Nat{1}}, {Neg: true, Num: api.Nat{1}, Den: ones(32 * limbs)}, {Num: bit(32*limbs - 1), Den: ones(32 * limbs)}}
	source := rand.New(rand.NewPCG(2, 7))
	for n := 1; n <= limbs; n *= 3 {
		for _, m := range []int{1, n, limbs} {
			r := new(big.Rat).SetFrac(bigOf(random(source, n)), bigOf(random(source, m)))
			l = append(l, fraction(r), fraction(new(big.Rat).Neg(r)))
		}
	}
	return l
}

// P2.6
func TestProper(t *testing.T) {
	for _, q := range fractions(512) {
		if !Proper(q) {
			t.Errorf("Proper of %d / %d limbs is false", len(q.Num), len(q.Den))
		}
	}
	for _, q := range improper() {
		if Proper(q) {
			t.Errorf("Proper of %d / %d limbs is true", len(q.Num), len(q.Den))
		}
	}
	for _, q := range tooLong() {
		if Proper(q) {
			t.Errorf("Proper of %d / %d limbs is true", len(q.Num), len(q.Den))
		}
	}
}

// P2.6
func TestRatio(t *testing.T) {
	for _, a := range numbers(512) {
		for _, b := range numbers(512) {
			if len(a)+len(b) > 600 && len(a) != len(b) {
				continue
			}
			for _, neg := range []bool{false, true} {
				q, e := Ratio(neg, a, b)
				if len(b) == 0 {
					if !equal(q, api.Quo{}) || e != api.ErrNone {
						t.Errorf("Ratio with 0: %v, %d", q, e)
					}
					continue
				}
				want := new(big.Rat).SetFrac(bigOf(a), bigOf(b))
				if neg {
					want.Neg(want)
				}
				sameFraction(t, "Ratio", q, e, want)
			}
		}
	}
	if q, e := Ratio(true, api.Nat{6}, api.Nat{4}); !equal(q, quo(-3, 2)) || e != api.OK {
		t.Errorf("Ratio of -6 and 4: %v, %d", q, e)
	}
	if q, e := Ratio(true, nil, api.Nat{4}); !equal(q, quo(0, 1)) || e != api.OK {
		t.Errorf("Ratio of -0 and 4: %v, %d", q, e)
	}
}

// P2.7
func TestSumsOfFractions(t *testing.T) {
	l := fractions(512)
	for i, a := range l {
		for j, b := range l {
			// All pairs of such long ones take too long.
			if (i+j)%4 == 0 {
				checkSums(t, a, b)
			}
		}
	}
}

// checkSums compares what all functions of two fractions return.
func checkSums(t *testing.T, a, b api.Quo) {
	t.Helper()
	x, y := ratOf(a), ratOf(b)
	q, e := QAdd(a, b)
	sameFraction(t, "QAdd", q, e, new(big.Rat).Add(x, y))
	q, e = QSub(a, b)
	sameFraction(t, "QSub", q, e, new(big.Rat).Sub(x, y))
	q, e = QMul(a, b)
	sameFraction(t, "QMul", q, e, new(big.Rat).Mul(x, y))
	if c, e := QCmp(a, b); c != x.Cmp(y) || e != api.OK {
		t.Errorf("QCmp: %d, %d", c, e)
	}
	q, e = QDiv(a, b)
	if len(b.Num) > 0 {
		sameFraction(t, "QDiv", q, e, new(big.Rat).Quo(x, y))
	} else if !equal(q, api.Quo{}) || e != api.ErrNone {
		t.Errorf("QDiv by 0: %v, %d", q, e)
	}
}

// P2.7: all fractions of small numbers, so that signs, zeros and common divisors meet in every way.
func TestSumsOfSmallFractions(t *testing.T) {
	var l []api.Quo
	for d := int64(1); d <= 7; d++ {
		for n := int64(-7); n <= 7; n++ {
			if q := fraction(big.NewRat(n, d)); slices.Equal(q.Den, Of(uint64(d))) {
				l = append(l, q)
			}
		}
	}
	for _, a := range l {
		for _, b := range l {
			checkSums(t, a, b)
		}
	}
}

// P2.7: results that only fit in lowest terms, and results that do not fit.
func TestFractionsAtTheLimit(t *testing.T) {
	full := ones(16384)
	whole, part := api.Quo{Num: full, Den: api.Nat{1}}, api.Quo{Num: api.Nat{1}, Den: full}
	if q, e := QMul(whole, part); !equal(q, quo(1, 1)) || e != api.OK {
		t.Errorf("QMul of reciprocals: %d", e)
	}
	if q, e := QDiv(whole, whole); !equal(q, quo(1, 1)) || e != api.OK {
		t.Errorf("QDiv by itself: %d", e)
	}
	if q, e := QSub(part, part); !equal(q, quo(0, 1)) || e != api.OK {
		t.Errorf("QSub of itself: %d", e)
	}
	if q, e := QDiv(whole, part); !equal(q, api.Quo{}) || e != api.ErrLong {
		t.Errorf("QDiv with a long numerator: %d", e)
	}
	if q, e := QMul(part, part); !equal(q, api.Quo{}) || e != api.ErrLong {
		t.Errorf("QMul with a long denominator: %d", e)
	}
	if q, e := QAdd(whole, quo(1, 1)); !equal(q, api.Quo{}) || e != api.ErrLong {
		t.Errorf("QAdd above the limit: %d", e)
	}
	if q, e := QAdd(whole, quo(-1, 1)); !equal(q, api.Quo{Num: natOf(new(big.Int).Sub(bigOf(full), big.NewInt(1))), Den: api.Nat{1}}) || e != api.OK {
		t.Errorf("QAdd below the limit: %d", e)
	}
}

// P2.7
func TestQFloor(t *testing.T) {
	for _, q := range fractions(512) {
		want := new(big.Int).Div(ratOf(q).Num(), ratOf(q).Denom())
		neg, n, e := QFloor(q)
		same(t, "QFloor", n, e, new(big.Int).Abs(want))
		if neg != (want.Sign() < 0) {
			t.Errorf("QFloor of %s: %v", ratOf(q), neg)
		}
	}
	for n := int64(-20); n <= 20; n++ {
		for d := int64(1); d < 6; d++ {
			want := new(big.Int).Div(big.NewInt(n), big.NewInt(d))
			neg, got, e := QFloor(fraction(big.NewRat(n, d)))
			if neg != (want.Sign() < 0) || !slices.Equal(got, natOf(new(big.Int).Abs(want))) || e != api.OK {
				t.Errorf("QFloor(%d/%d): %v, %v, %d", n, d, neg, got, e)
			}
		}
	}
}

// ratPower returns the k-th power of r, which is not 0 if k is below 0.
func ratPower(r *big.Rat, k int) *big.Rat {
	if k < 0 {
		return ratPower(new(big.Rat).Inv(r), -k)
	}
	n := big.NewInt(int64(k))
	return new(big.Rat).SetFrac(new(big.Int).Exp(r.Num(), n, nil), new(big.Int).Exp(r.Denom(), n, nil))
}

// P2.7
func TestQPow(t *testing.T) {
	for _, a := range fractions(100) {
		for _, k := range []int{-21, -6, -5, -3, -2, -1, 0, 1, 2, 3, 5, 6, 21} {
			q, e := QPow(a, k)
			if len(a.Num) > 0 || k >= 0 {
				sameFraction(t, "QPow", q, e, ratPower(ratOf(a), k))
			} else if !equal(q, api.Quo{}) || e != api.ErrNone {
				t.Errorf("QPow of 0 and %d: %v, %d", k, q, e)
			}
		}
	}
	for _, x := range []struct {
		a, want api.Quo
		k       int
		e       api.Errno
	}{
		{quo(-2, 3), quo(-27, 8), -3, api.OK},
		{quo(0, 1), quo(1, 1), 0, api.OK},
		{quo(0, 1), quo(0, 1), 2000, api.OK},
		{quo(0, 1), api.Quo{}, -2000, api.ErrNone},
		{quo(0, 1), api.Quo{}, -2001, api.ErrArg},
		{quo(-1, 1), quo(1, 1), -2000, api.OK},
		{quo(-1, 1), quo(-1, 1), 1999, api.OK},
		{quo(1, 1), api.Quo{}, 2001, api.ErrArg},
		{quo(1, 1), api.Quo{}, math.MaxInt, api.ErrArg},
		{quo(1, 1), api.Quo{}, math.MinInt, api.ErrArg},
		{quo(255, 2), api.Quo{}, 2050, api.ErrArg},
		{quo(1<<9, 1), api.Quo{}, 2000, api.ErrLong},
		{quo(1, 1<<9), api.Quo{}, 2000, api.ErrLong},
		{quo(1<<9, 1), api.Quo{}, -2000, api.ErrLong},
		{quo(-1<<8, 1), api.Quo{Num: bit(16000), Den: api.Nat{1}}, 2000, api.OK},
		{quo(1<<8, 1), api.Quo{Num: api.Nat{1}, Den: bit(16000)}, -2000, api.OK},
	} {
		if q, e := QPow(x.a, x.k); !equal(q, x.want) || e != x.e {
			t.Errorf("QPow(%s, %d): %d / %d limbs, %v, %d", ratOf(x.a), x.k, len(q.Num), len(q.Den), q.Neg, e)
		}
	}
}

// P2.8
func TestLawsOfFractions(t *testing.T) {
	l := fractions(40)
	for i, a := range l {
		b, c := l[(i*7+3)%len(l)], l[(i*5+8)%len(l)]
		ab, _ := QAdd(a, b)
		bc, _ := QAdd(b, c)
		left, _ := QAdd(ab, c)
		right, _ := QAdd(bc, a)
		if !equal(left, right) {
			t.Errorf("sums %d differ", i)
		}
		if back, e := QSub(ab, b); !equal(back, a) || e != api.OK {
			t.Errorf("QSub of QAdd %d: %d", i, e)
		}
		ab, _ = QMul(a, b)
		ac, _ := QMul(c, a)
		left, _ = QMul(bc, a)
		right, _ = QAdd(ab, ac)
		if !equal(left, right) {
			t.Errorf("products of sums %d differ", i)
		}
		bc, _ = QMul(b, c)
		left, _ = QMul(ab, c)
		right, _ = QMul(bc, a)
		if !equal(left, right) {
			t.Errorf("products %d differ", i)
		}
	}
}
