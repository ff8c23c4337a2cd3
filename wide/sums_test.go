package wide

import (
	"math"
	"math/big"
	"slices"
	"testing"

	"quintadena/api"
)

// P2.3 and P2.9
func TestShift(t *testing.T) {
	for _, a := range numbers(512) {
		for _, n := range []int{0, 1, 2, 5, 31, 32, 33, 63, 64, 65, 127, 8000, 16351, 16352, 16383, 16384, 16385, 20000} {
			up, e := Shift(a, n)
			same(t, "Shift up", up, e, new(big.Int).Lsh(bigOf(a), uint(n)))
			down, eDown := Shift(a, -n)
			same(t, "Shift down", down, eDown, new(big.Int).Rsh(bigOf(a), uint(n)))
			if back, eBack := Shift(up, -n); e == api.OK && (eBack != api.OK || !slices.Equal(back, a)) {
				t.Errorf("Shift of %d limbs by %d and back: %d limbs, %d", len(a), n, len(back), eBack)
			}
		}
	}
	for _, n := range []int{20001, -20001, math.MaxInt, math.MinInt} {
		for _, a := range []api.Nat{nil, {5}, ones(16384)} {
			if r, e := Shift(a, n); len(r) != 0 || e != api.ErrArg {
				t.Errorf("Shift of %d limbs by %d: %d limbs, %d", len(a), n, len(r), e)
			}
		}
	}
}

// P2.4
func TestAddAndSub(t *testing.T) {
	for _, a := range numbers(512) {
		for _, b := range numbers(512) {
			x, y := bigOf(a), bigOf(b)
			s, e := Add(a, b)
			same(t, "Add", s, e, new(big.Int).Add(x, y))
			if x.Cmp(y) >= 0 {
				d, e := Sub(a, b)
				same(t, "Sub", d, e, new(big.Int).Sub(x, y))
			} else if d, e := Sub(a, b); len(d) != 0 || e != api.ErrRange {
				t.Errorf("Sub of a greater number: %d limbs, %d", len(d), e)
			}
		}
	}
}

// P2.4
func TestMul(t *testing.T) {
	for _, a := range numbers(512) {
		for _, b := range numbers(512) {
			p, e := Mul(a, b)
			same(t, "Mul", p, e, new(big.Int).Mul(bigOf(a), bigOf(b)))
		}
	}
}

// P2.4: the greatest results that are allowed, and the least ones that are not.
func TestSumsAtTheLimit(t *testing.T) {
	full := ones(16384)
	if s, e := Add(full, api.Nat{1}); len(s) != 0 || e != api.ErrLong {
		t.Errorf("Add above the limit: %d limbs, %d", len(s), e)
	}
	if s, e := Add(bit(16383), ones(16383)); !slices.Equal(s, full) || e != api.OK {
		t.Errorf("Add at the limit: %d limbs, %d", len(s), e)
	}
	if p, e := Mul(bit(8192), bit(8192)); len(p) != 0 || e != api.ErrLong {
		t.Errorf("Mul above the limit: %d limbs, %d", len(p), e)
	}
	if p, e := Mul(bit(8191), bit(8192)); !slices.Equal(p, bit(16383)) || e != api.OK {
		t.Errorf("Mul at the limit: %d limbs, %d", len(p), e)
	}
	if p, e := Mul(full, nil); len(p) != 0 || e != api.OK {
		t.Errorf("Mul with 0: %d limbs, %d", len(p), e)
	}
}

// P2.8
func TestLawsOfSums(t *testing.T) {
	l := numbers(60)
	for i, a := range l {
		b, c := l[(i*7+3)%len(l)], l[(i*11+5)%len(l)]
		ab, _ := Add(a, b)
		bc, _ := Add(b, c)
		left, _ := Add(ab, c)
		right, _ := Add(bc, a)
		if !slices.Equal(left, right) {
			t.Errorf("sums %d differ", i)
		}
		if back, e := Sub(ab, b); !slices.Equal(back, a) || e != api.OK {
			t.Errorf("Sub of Add %d: %d limbs, %d", i, len(back), e)
		}
		ab, _ = Mul(a, b)
		ac, _ := Mul(c, a)
		left, _ = Mul(bc, a)
		right, _ = Add(ab, ac)
		if !slices.Equal(left, right) {
			t.Errorf("products of sums %d differ", i)
		}
		bcProduct, _ := Mul(b, c)
		left, _ = Mul(ab, c)
		right, _ = Mul(a, bcProduct)
		if !slices.Equal(left, right) {
			t.Errorf("products %d differ", i)
		}
	}
}
