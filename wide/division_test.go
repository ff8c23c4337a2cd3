package wide

import (
	"math"
	"math/big"
	"math/rand/v2"
	"slices"
	"testing"

	"quintadena/api"
)

// checkDivision compares DivMod of a and b, which is not 0.
func checkDivision(t *testing.T, a, b api.Nat) {
	t.Helper()
	wantQ, wantR := new(big.Int).QuoRem(bigOf(a), bigOf(b), new(big.Int))
	q, r, e := DivMod(a, b)
	same(t, "quotient", q, e, wantQ)
	same(t, "rest", r, e, wantR)
}

// P2.4
func TestDivMod(t *testing.T) {
	for _, a := range numbers(512) {
		for _, b := range numbers(512) {
			if len(b) > 0 {
				checkDivision(t, a, b)
			} else if q, r, e := DivMod(a, b); len(q) != 0 || len(r) != 0 || e != api.ErrNone {
				t.Errorf("DivMod of %d limbs and 0: %d, %d limbs, %d", len(a), len(q), len(r), e)
			}
		}
	}
}

// P2.4: limbs of the quotient that are guessed too great by 1 or 2, and those whose rest must be added back.
func TestDivModOfBadGuesses(t *testing.T) {
	limbs := []uint32{0, 1, 2, 1 << 31, 1<<31 - 1, 1<<31 + 1, math.MaxUint32 - 1, math.MaxUint32}
	for _, a0 := range limbs {
		for _, a1 := range limbs {
			for _, a2 := range limbs {
				for _, a3 := range limbs {
					a := trim(api.Nat{a0, a1, a2, a3})
					for _, b := range []api.Nat{{a1, 1 << 31}, {a2, 1}, {math.MaxUint32, 1 << 31}, {a0, a2, 1 << 31}, {1, a3, 1}, {a1, 0, math.MaxUint32}} {
						checkDivision(t, a, b)
					}
				}
			}
		}
	}
}

// P2.4
func TestDivModOfRandomNumbers(t *testing.T) {
	source := rand.New(rand.NewPCG(4, 4))
	for range 20000 {
		checkDivision(t, random(source, source.IntN(9)), random(source, 1+source.IntN(5)))
	}
	for range 100 {
		b := random(source, 1+source.IntN(300))
		q := random(source, 1+source.IntN(200))
		for _, near := range []*big.Int{big.NewInt(-1), new(big.Int), big.NewInt(1)} {
			a := new(big.Int).Mul(bigOf(b), bigOf(q))
			checkDivision(t, natOf(a.Add(a, near)), b)
		}
	}
}

// P2.8 and P2.4: what is divided is the product and the rest.
func TestDivModUndoesMul(t *testing.T) {
	for _, b := range numbers(200) {
		for _, q := range numbers(200) {
			if len(b) == 0 {
				continue
			}
			rest, _ := Sub(b, api.Nat{1})
			p, _ := Mul(b, q)
			a, _ := Add(p, rest)
			if gotQ, gotR, e := DivMod(a, b); !slices.Equal(gotQ, q) || !slices.Equal(gotR, rest) || e != api.OK {
				t.Errorf("DivMod of a product of %d and %d limbs: %d, %d limbs, %d", len(b), len(q), len(gotQ), len(gotR), e)
			}
		}
	}
}
