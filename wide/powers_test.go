package wide

import (
	"math"
	"math/big"
	"slices"
	"testing"

	"quintadena/api"
)

// P2.5
func TestPow(t *testing.T) {
	for _, a := range numbers(512) {
		for _, k := range []int{0, 1, 2, 3, 4, 5, 7, 8, 9, 31, 64, 100, 255, 511, 512, 513} {
			// What is longer than this is too long whatever it is exactly.
			want := bit(16384)
			if len(a) < 2 || len(a)*k < 1200 {
				want = natOf(new(big.Int).Exp(bigOf(a), big.NewInt(int64(k)), nil))
			}
			p, e := Pow(a, k)
			same(t, "Pow", p, e, bigOf(want))
		}
	}
	for _, k := range []int{-1, 20001, math.MaxInt, math.MinInt} {
		for _, a := range []api.Nat{nil, {1}, {2}, ones(16384)} {
			if p, e := Pow(a, k); len(p) != 0 || e != api.ErrArg {
				t.Errorf("Pow of %d limbs and %d: %d limbs, %d", len(a), k, len(p), e)
			}
		}
	}
}

// P2.5: the greatest powers that are allowed, and the next ones.
func TestPowAtTheLimit(t *testing.T) {
	for base := uint64(2); base < 70; base++ {
		k := 0
		for p := big.NewInt(1); p.BitLen() <= 16384; k++ {
			p.Mul(p, new(big.Int).SetUint64(base))
		}
		if p, e := Pow(Of(base), k); len(p) != 0 || e != api.ErrLong {
			t.Errorf("Pow(%d, %d): %d limbs, %d", base, k, len(p), e)
		}
		p, e := Pow(Of(base), k-1)
		same(t, "Pow", p, e, new(big.Int).Exp(new(big.Int).SetUint64(base), big.NewInt(int64(k-1)), nil))
	}
	for base, want := range map[uint64]api.Nat{0: nil, 1: {1}} {
		if p, e := Pow(Of(base), 20000); !slices.Equal(p, want) || e != api.OK {
			t.Errorf("Pow(%d, 20000): %v, %d", base, p, e)
		}
	}
	if p, e := Pow(ones(16384), 20000); len(p) != 0 || e != api.ErrLong {
		t.Errorf("the greatest power: %d limbs, %d", len(p), e)
	}
}

// P2.5 and P2.9
func TestRoot(t *testing.T) {
	for _, a := range numbers(512) {
		for _, k := range []int{1, 2, 3, 4, 5, 7, 16, 31, 63, 64} {
			r, e := Root(a, k)
			if e != api.OK || !Valid(r) {
				t.Errorf("Root of %d limbs and %d: %d limbs, %d", len(a), k, len(r), e)
			}
			x, n := bigOf(r), big.NewInt(int64(k))
			above := new(big.Int).Add(x, big.NewInt(1))
			if x.Exp(x, n, nil).Cmp(bigOf(a)) > 0 || above.Exp(above, n, nil).Cmp(bigOf(a)) <= 0 {
				t.Errorf("Root of %d limbs and %d is wrong", len(a), k)
			}
		}
	}
	for _, k := range []int{0, -1, 65, math.MaxInt, math.MinInt} {
		for _, a := range []api.Nat{nil, {1}, ones(16384)} {
			if r, e := Root(a, k); len(r) != 0 || e != api.ErrArg {
				t.Errorf("Root of %d limbs and %d: %d limbs, %d", len(a), k, len(r), e)
			}
		}
	}
}

// P2.5: powers, and the numbers beside them.
func TestRootOfPowers(t *testing.T) {
	for n := int64(1); n < 300; n++ {
		for k := int64(1); k <= 64; k++ {
			p := new(big.Int).Exp(big.NewInt(n), big.NewInt(k), nil)
			r, e := Root(natOf(p), int(k))
			same(t, "Root of a power", r, e, big.NewInt(n))
			r, e = Root(natOf(p.Sub(p, big.NewInt(1))), int(k))
			same(t, "Root of the number below a power", r, e, big.NewInt(n-1))
		}
	}
}
