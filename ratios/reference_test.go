package ratios

import (
	"math/big"
	"math/rand/v2"
	"testing"

	"quintadena/api"
)

// The reference compares a product with 1 in another way than the package: by the prime factors of its numbers, and by series of natural logarithms.

// power is n to the power of e.
type power struct {
	n int64
	e *big.Int
}

// logKey names a logarithm that was calculated: of n, with so many binary places.
type logKey struct {
	n      int64
	places uint
}

var (
	logs    = map[logKey]*big.Int{}
	factors = map[int64]map[int64]int64{}
)

// logError is how many units of the last place a logarithm may be off.
const logError = 1 << 20

// product returns the terms of numbers and their exponents, by turns.
func product(l ...int64) []api.Term {
	var terms []api.Term
	for i := 0; i < len(l); i += 2 {
		terms = append(terms, api.Term{N: l[i], Num: l[i+1]})
	}
	return terms
}

func number(n int64) *big.Int {
	return big.NewInt(n)
}

// times returns l, with its exponents multiplied by by.
func times(l []api.Term, by int64) []power {
	var p []power
	for _, t := range l {
		p = append(p, power{t.N, new(big.Int).Mul(number(t.Num), number(by))})
	}
	return p
}

// artanh returns twice the inverse hyperbolic tangent of num / den.
func artanh(num, den int64, places uint) *big.Int {
	z := new(big.Int).Lsh(number(num), places)
	z.Quo(z, number(den))
	square := new(big.Int).Mul(z, z)
	square.Rsh(square, places)
	sum := new(big.Int)
	for i := int64(1); z.Sign() > 0; i += 2 {
		sum.Add(sum, new(big.Int).Quo(z, number(i)))
		z.Mul(z, square).Rsh(z, places)
	}
	return sum.Lsh(sum, 1)
}

// logarithm returns the natural logarithm of n.
func logarithm(n int64, places uint) *big.Int {
	key := logKey{n, places}
	if l := logs[key]; l != nil {
		return l
	}
	whole := int64(number(n).BitLen() - 1)
	l := new(big.Int).Mul(number(whole), artanh(1, 3, places))
	l.Add(l, artanh(n-1<<whole, n+1<<whole, places))
	logs[key] = l
	return l
}

// factorsOf returns the exponents of the primes in n.
func factorsOf(n int64) map[int64]int64 {
	if f := factors[n]; f != nil {
		return f
	}
	f, rest := map[int64]int64{}, n
	for p := int64(2); p*p <= rest; p++ {
		for rest%p == 0 {
			f[p]++
			rest /= p
		}
	}
	if rest > 1 {
		f[rest]++
	}
	factors[n] = f
	return f
}

// cancels reports whether all prime factors of the product cancel.
func cancels(l []power) bool {
	sums := map[int64]*big.Int{}
	for _, t := range l {
		for p, k := range factorsOf(t.n) {
			if sums[p] == nil {
				sums[p] = new(big.Int)
			}
			sums[p].Add(sums[p], new(big.Int).Mul(t.e, number(k)))
		}
	}
	for _, s := range sums {
		if s.Sign() != 0 {
			return false
		}
	}
	return true
}

// logSign returns the sign of the logarithm of the product, if so many places show it.
func logSign(l []power, places uint) (int, bool) {
	sum, off := new(big.Int), new(big.Int)
	for _, t := range l {
		sum.Add(sum, new(big.Int).Mul(t.e, logarithm(t.n, places)))
		off.Add(off, new(big.Int).Abs(t.e))
	}
	off.Mul(off, number(logError))
	return sum.Sign(), sum.CmpAbs(off) > 0
}

// signOf returns what Sign must return for the product.
func signOf(l ...power) int {
	if s, sure := logSign(l, 200); sure {
		return s
	}
	if cancels(l) {
		return 0
	}
	s, sure := logSign(l, 4000)
	if !sure {
		panic("4000 places do not show the sign")
	}
	return s
}

// How near the reference is to known values.
func TestReference(t *testing.T) {
	two, _ := new(big.Int).SetString("693147180559945309417232121458176568075500134360255254", 10)
	ten, _ := new(big.Int).SetString("2302585092994045684017991454684364207601101488628772976", 10)
	one := new(big.Int).Exp(number(10), number(54), nil)
	for n, want := range map[int64]*big.Int{2: two, 10: ten} {
		got := new(big.Int).Mul(logarithm(n, 200), one)
		got.Rsh(got, 200)
		if d := new(big.Int).Sub(got, want); d.CmpAbs(number(1)) > 0 {
			t.Errorf("the logarithm of %d is off by %v", n, d)
		}
	}
	if !cancels(times(product(360, 2, 6, -4, 10, -2), 7)) {
		t.Error("360^2 6^-4 10^-2 does not cancel")
	}
}

// upTo returns a number from 1 to most, of any size.
func upTo(source *rand.Rand, most int64) int64 {
	return 1 + source.Int64N(min(most, 2<<source.IntN(40)))
}

// exponent returns a number from -most to most, of any size.
func exponent(source *rand.Rand, most int64) int64 {
	n := source.Int64N(min(most+1, 2<<source.IntN(40)))
	if source.IntN(2) == 0 {
		return -n
	}
	return n
}

// termsOf returns up to count valid terms of all sizes.
func termsOf(source *rand.Rand, count int) []api.Term {
	l := make([]api.Term, source.IntN(count+1))
	for i := range l {
		l[i] = api.Term{N: upTo(source, api.MaxTermN), Num: exponent(source, api.MaxTermNum)}
	}
	return l
}

// one is the ratio 1.
func one() api.Ratio {
	return api.Ratio{Den: 1}
}

// sure returns a result that can't be an error.
func sure[T any](x T, e api.Errno) T {
	if e != api.OK {
		panic(e)
	}
	return x
}

// exponentsOf returns the exponents of a, as fractions.
func exponentsOf(a api.Ratio) [6]*big.Rat {
	var l [6]*big.Rat
	for i, n := range a.Num {
		l[i] = big.NewRat(int64(n), int64(a.Den))
	}
	return l
}

// ratioOf returns the ratio with these exponents, or ErrRange: Den is the least common multiple of their denominators.
func ratioOf(l [6]*big.Rat) (api.Ratio, api.Errno) {
	den := number(1)
	for _, x := range l {
		divisor := new(big.Int).GCD(nil, nil, den, x.Denom())
		den.Mul(den, new(big.Int).Quo(x.Denom(), divisor))
	}
	if den.Cmp(number(1000)) > 0 {
		return api.Ratio{}, api.ErrRange
	}
	r := api.Ratio{Den: int(den.Int64())}
	for i, x := range l {
		n := new(big.Int).Mul(x.Num(), new(big.Int).Quo(den, x.Denom()))
		if n.CmpAbs(number(100000)) > 0 {
			return api.Ratio{}, api.ErrRange
		}
		r.Num[i] = int(n.Int64())
	}
	return r, api.OK
}

// powersIn returns the powers of primes whose Den-th root a is, also those whose exponent is 0.
func powersIn(a api.Ratio) []api.Term {
	var l []api.Term
	for i, p := range []int64{2, 3, 5, 7, 11, 13} {
		l = append(l, api.Term{N: p, Num: int64(a.Num[i])})
	}
	return l
}

// anyRatio returns a valid ratio with numbers up to these.
func anyRatio(source *rand.Rand, num, den int64) api.Ratio {
	for {
		var l [6]*big.Rat
		d := upTo(source, den)
		for i := range l {
			l[i] = new(big.Rat)
			if source.IntN(3) > 0 {
				l[i] = big.NewRat(exponent(source, num), d)
			}
		}
		if r, e := ratioOf(l); e == api.OK {
			return r
		}
	}
}

// ratiosOf returns valid ratios: simple ones, ones at the limits, and others of all sizes.
func ratiosOf(source *rand.Rand, count int) []api.Ratio {
	l := []api.Ratio{one(), {Num: [6]int{1}, Den: 1}, {Num: [6]int{-1, 1}, Den: 1}, {Num: [6]int{2: 1}, Den: 4}, {Num: [6]int{-19, 12}, Den: 12}, {Num: [6]int{100000, 100000, 100000, 100000, 100000, 100000}, Den: 1}, {Num: [6]int{-100000, -100000, -100000, -100000, -100000, -100000}, Den: 999}, {Num: [6]int{5: -1}, Den: 1000}, {Num: [6]int{100000, -100000}, Den: 1}, {Num: [6]int{-63093, 39807}, Den: 1000}}
	for range count {
		l = append(l, anyRatio(source, 100000, 1000), anyRatio(source, 100, 12), anyRatio(source, 3, 1))
	}
	return l
}
