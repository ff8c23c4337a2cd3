package wide

import (
	"math/big"
	"math/rand/v2"
	"slices"
	"testing"

	"quintadena/api"
)

// checkGcd compares Gcd of a and b, in both orders.
func checkGcd(t *testing.T, a, b api.Nat) {
	t.Helper()
	want := new(big.Int).GCD(nil, nil, bigOf(a), bigOf(b))
	d, e := Gcd(a, b)
	same(t, "Gcd", d, e, want)
	d, e = Gcd(b, a)
	same(t, "Gcd", d, e, want)
}

// P2.4
func TestGcd(t *testing.T) {
	for _, x := range []struct{ a, b, want uint64 }{{462, 1071, 21}, {0, 0, 0}, {0, 7, 7}, {7, 0, 7}, {7, 7, 7}, {1, 1 << 40, 1}, {1 << 40, 3 << 33, 1 << 33}, {1<<64 - 1, 1<<64 - 2, 1}, {1<<64 - 1, 1<<32 - 1, 1<<32 - 1}} {
		if d, e := Gcd(Of(x.a), Of(x.b)); !slices.Equal(d, Of(x.want)) || e != api.OK {
			t.Errorf("Gcd(%d, %d): %v, %d", x.a, x.b, d, e)
		}
	}
	for _, a := range numbers(512) {
		for _, b := range numbers(512) {
			checkGcd(t, a, b)
		}
	}
}

// P2.4: numbers of every size of both, near each other and far from it, with and without common divisors.
func TestGcdOfRandomNumbers(t *testing.T) {
	source := rand.New(rand.NewPCG(4, 5))
	for range 5000 {
		a, b := random(source, source.IntN(7)), random(source, source.IntN(7))
		d := random(source, source.IntN(4))
		checkGcd(t, a, b)
		checkGcd(t, product(a, d), product(b, d))
		checkGcd(t, sum(a, d), a)
	}
	for range 20 {
		d := random(source, 1+source.IntN(200))
		checkGcd(t, product(random(source, source.IntN(300)), d), product(random(source, source.IntN(300)), d))
	}
}

// P2.4: Fibonacci's numbers take the most steps, and those beside them leave the first steps late.
func TestGcdOfFibonacci(t *testing.T) {
	a, b := big.NewInt(0), big.NewInt(1)
	for a.BitLen() < 1200 {
		checkGcd(t, natOf(a), natOf(b))
		checkGcd(t, natOf(new(big.Int).Add(a, big.NewInt(1))), natOf(b))
		a, b = b, a.Add(a, b)
	}
}

// P2.4: numbers whose highest 64 bits are the same, or those of a multiple.
func TestGcdOfNearNumbers(t *testing.T) {
	for n := 60; n < 140; n++ {
		for _, k := range []int64{1, 2, 3} {
			for delta := int64(-3); delta <= 3; delta++ {
				a := new(big.Int).Lsh(big.NewInt(5), uint(n))
				b := new(big.Int).Add(new(big.Int).Mul(a, big.NewInt(k)), big.NewInt(delta))
				checkGcd(t, natOf(a), natOf(b))
			}
		}
	}
}

// P2.10
func TestReciprocity(t *testing.T) {
	l := numbers(200)
	for i, a := range l {
		b := l[(5*i+1)%len(l)]
		if len(a) == 0 || len(b) == 0 {
			continue
		}
		d, _ := Gcd(a, b)
		qa, ra, _ := DivMod(a, d)
		qb, rb, _ := DivMod(b, d)
		if one, e := Gcd(qa, qb); len(ra) != 0 || len(rb) != 0 || !slices.Equal(one, api.Nat{1}) || e != api.OK {
			t.Errorf("quotients of the numbers %d by their common divisor: %d, %d limbs are left", i, len(ra), len(rb))
		}
		multiple, _ := Mul(qa, b)
		ab, _ := Mul(a, b)
		if p, e := Mul(d, multiple); !slices.Equal(p, ab) || e != api.OK {
			t.Errorf("the least common multiple of the numbers %d: %d", i, e)
		}
	}
}
