package ratios

import (
	"math/rand/v2"
	"slices"
	"testing"

	"quintadena/api"
)

// inverse returns 1 divided by the product.
func inverse(l []api.Term) []api.Term {
	r := make([]api.Term, len(l))
	for i, t := range l {
		r[i] = api.Term{N: t.N, Num: -t.Num}
	}
	return r
}

// wantSign compares Sign of l, and of its inverse, with want.
func wantSign(t *testing.T, l []api.Term, want int) {
	t.Helper()
	if s, e := Sign(l); s != want || e != api.OK {
		t.Errorf("Sign(%v) = %d, %d, want %d", l, s, e, want)
	}
	if s, e := Sign(inverse(l)); s != -want || e != api.OK {
		t.Errorf("Sign of the inverse of %v = %d, %d, want %d", l, s, e, -want)
	}
}

// P4.1: the examples, and few or no terms.
func TestSign(t *testing.T) {
	for _, c := range []struct {
		l    []api.Term
		want int
	}{
		{nil, 0},
		{[]api.Term{}, 0},
		{product(3, 12, 2, -19), 1},
		{product(8, 2, 4, -3), 0},
		{product(1000, 1, 2, -10), -1},
		{product(2, 1), 1},
		{product(2, 0), 0},
		{product(1, 1000000000, 1, -1000000000, 1000000000000, 0), 0},
		{product(1000000000000, 1000000000), 1},
		{product(1000000000000, 1000000000, 999999999999, -1000000000), 1},
		{product(1000000000000, 1, 999999999999, -1), 1},
		{product(1000000000000, 999999999, 999999999999, -1000000000), -1},
		{sixteen(1000000000000, 1000000000), 1},
		{sixteen(999999999989, -1000000000), -1},
	} {
		wantSign(t, c.l, c.want)
	}
}

// sixteen returns the greatest number of terms, all the same.
func sixteen(n, num int64) []api.Term {
	l := make([]api.Term, 16)
	for i := range l {
		l[i] = api.Term{N: n, Num: num}
	}
	return l
}

// P4.1, P4.7: terms of all sizes.
func TestSignOfAny(t *testing.T) {
	source := rand.New(rand.NewPCG(4, 1))
	for range 400 {
		l := termsOf(source, 16)
		wantSign(t, l, signOf(times(l, 1)...))
	}
}

// balanced returns terms whose product is 1: numbers with several prime factors, and the primes, which take all of them away again.
func balanced(source *rand.Rand) []api.Term {
	primes := []int64{2, 3, 5, 7, 11, 13, 999983}
	var sums [7]int64
	var l []api.Term
	for range 1 + source.IntN(9) {
		t := api.Term{N: 1, Num: exponent(source, 1000000)}
		for {
			i := source.IntN(len(primes))
			if t.N*primes[i] > api.MaxTermN || source.IntN(8) == 0 {
				break
			}
			t.N *= primes[i]
			sums[i] += t.Num
		}
		l = append(l, t)
	}
	for i, p := range primes {
		l = append(l, api.Term{N: p, Num: -sums[i]})
	}
	source.Shuffle(len(l), func(i, j int) { l[i], l[j] = l[j], l[i] })
	return l
}

// entwined returns terms whose product is 1, though no number divides another one: products of two of three numbers, and of all three.
func entwined(source *rand.Rand) []api.Term {
	a, b, c := upTo(source, 10000), upTo(source, 10000), upTo(source, 10000)
	n := upTo(source, 400000000)
	return product(a*b, n, b*c, n, a*b*c, -2*n, c*a, n)
}

// P4.7: products that are 1, and the same with an exponent that is 1 off.
func TestSignOfOne(t *testing.T) {
	source := rand.New(rand.NewPCG(4, 2))
	for range 300 {
		wantSign(t, entwined(source), 0)
		l := balanced(source)
		wantSign(t, l, 0)
		i := source.IntN(len(l))
		l[i].Num++
		wantSign(t, l, min(1, int(l[i].N)-1))
	}
	// The greatest exponents that arise when factors are taken out.
	l := sixteen(549755813888, 1000000000)
	for i := range 8 {
		l[2*i].Num = -1000000000
	}
	wantSign(t, l, 0)
	l[3].Num--
	wantSign(t, l, -1)
}

// differences returns the product whose logarithm is the n-th difference of the logarithms of numbers up to 10^12. As the n-th derivative of a logarithm is above 0 for odd n, and below 0 for even n, so is the difference; it is about (n - 1)! / 10^(12 n).
func differences(n int64) []api.Term {
	l := make([]api.Term, n+1)
	c := int64(1)
	for i := int64(0); i <= n; i++ {
		l[i] = api.Term{N: 1000000000000 - i, Num: c}
		c = -c * (n - i) / (i + 1)
	}
	return l
}

// near returns products that are very near to 1, and where the logarithm to the base 2 of their distance is; they were found by reducing a lattice.
func near() map[int][]api.Term {
	return map[int][]api.Term{
		-33:  product(2, 630138897, 3, -397573379),
		-62:  product(2, 178310082, 3, -260529469, 5, 101045057),
		-88:  product(2, -40965, 3, 5642, 5, -94461, 7, 94225, 11, -35365, 13, 29503),
		-120: product(2, 775797440, 1000000000000, 696009188, 999999999999, -598436675, 999999999998, 598462793, 999999999997, -715496831),
		-151: product(2, 652185405, 3, -49857067, 5, 590030625, 7, -34946791, 11, 304305125, 13, -783092674),
		-454: product(999999999989, 74332078, 999999999961, 331672827, 999999999959, -167957138, 999999999937, -386437932, 999999999899, -66288212, 999999999877, -57589780, 999999999863, -31475481, 999999999857, -177740195, 999999999847, 453614534, 999999999767, -318592416, 999999999707, 808314264, 999999999697, -230614629, 999999999673, 319468062, 999999999617, -925055795, 999999999611, 119018245, 999999999599, 255331568),
	}
}

// P4.7: products that only many places tell from 1.
func TestSignNearOne(t *testing.T) {
	for n := int64(1); n <= 15; n++ {
		want := 1
		if n%2 == 0 {
			want = -1
		}
		wantSign(t, differences(n), want)
		if got := signOf(times(differences(n), 1)...); got != want {
			t.Errorf("the reference of differences(%d) is %d", n, got)
		}
	}
	for k, l := range near() {
		if got := signOf(times(l, 1)...); got != 1 {
			t.Errorf("the reference of near()[%d] is %d", k, got)
		}
		wantSign(t, l, 1)
		if len(l) < 16 {
			wantSign(t, slices.Concat(l, product(999983, 1, 999983, -1)), 1)
		}
	}
}

// P4.7: the exponents q and p for which a^q and b^p are nearest to each other, on both sides.
func TestSignOfConvergents(t *testing.T) {
	for _, c := range [][2]int64{{3, 2}, {5, 3}, {7, 6}, {999999999989, 999983}, {1000000000000, 999999999989}, {9, 3}} {
		low, high := [2]int64{0, 1}, [2]int64{1, 0}
		for range 300 {
			p, q := low[0]+high[0], low[1]+high[1]
			if p > api.MaxTermNum || q > api.MaxTermNum {
				break
			}
			l := product(c[0], q, c[1], -p)
			s := signOf(times(l, 1)...)
			wantSign(t, l, s)
			if s >= 0 {
				low = [2]int64{p, q}
			} else {
				high = [2]int64{p, q}
			}
		}
	}
}

// The bad arguments of Sign, Floor and Power.
func TestBadTerms(t *testing.T) {
	for _, c := range []struct {
		l []api.Term
		e api.Errno
	}{
		{sixteen(2, 1), api.OK},
		{slices.Concat(sixteen(2, 1), product(2, 1)), api.ErrLong},
		{slices.Concat(sixteen(0, 0), product(2, 1)), api.ErrLong},
		{make([]api.Term, 17), api.ErrLong},
		{make([]api.Term, 16), api.ErrArg},
		{product(0, 1), api.ErrArg},
		{product(-1, 2), api.ErrArg},
		{product(2, 1, 1000000000001, 0), api.ErrArg},
		{product(2, 1, 2, 1000000001, 2, 1), api.ErrArg},
		{product(1, -1000000001, 2, 1), api.ErrArg},
		{product(1<<62, 1<<62, -1<<63, -1<<63), api.ErrArg},
		{product(1000000000000, 1000000000, 1000000000000, -1000000000, 1, 0), api.OK},
	} {
		s, e := Sign(c.l)
		if e != c.e || e != api.OK && s != 0 {
			t.Errorf("Sign(%v) = %d, %d, want %d", c.l, s, e, c.e)
		}
		if c.e == api.OK {
			continue
		}
		for _, bad := range []int64{0, 1} {
			if m, exact, e := Floor(c.l, bad, bad); m != 0 || exact || e != c.e {
				t.Errorf("Floor(%v, %d, %d) = %d, %v, %d, want %d", c.l, bad, bad, m, exact, e, c.e)
			}
			if k, exact, e := Power(bad, c.l, bad); k != 0 || exact || e != c.e {
				t.Errorf("Power(%d, %v, %d) = %d, %v, %d, want %d", bad, c.l, bad, k, exact, e, c.e)
			}
		}
	}
}

// P4.2: den and scale from 1 to their limits.
func TestBadScales(t *testing.T) {
	for _, c := range []struct {
		den, scale int64
		floor      api.Errno
		power      api.Errno
	}{
		{1, 1, api.OK, api.OK},
		{0, 1, api.ErrArg, api.ErrArg},
		{1, 0, api.ErrArg, api.ErrArg},
		{-1, -1, api.ErrArg, api.ErrArg},
		{1000000, 10000000, api.OK, api.OK},
		{1000001, 1, api.ErrArg, api.ErrArg},
		{1, 10000001, api.ErrArg, api.OK},
		{1000000, 1000000000000, api.ErrArg, api.OK},
		{1, 1000000000001, api.ErrArg, api.ErrArg},
		{-1 << 63, 1<<63 - 1, api.ErrArg, api.ErrArg},
		{1<<63 - 1, -1 << 63, api.ErrArg, api.ErrArg},
	} {
		if m, exact, e := Floor(nil, c.den, c.scale); m != 0 || e != c.floor || exact != (e == api.OK) {
			t.Errorf("Floor of 1 by %d, %d = %d, %v, %d", c.den, c.scale, m, exact, e)
		}
		want := c.scale
		if c.power != api.OK {
			want = 0
		}
		if k, exact, e := Power(c.scale, nil, c.den); k != want || e != c.power || exact != (e == api.OK) {
			t.Errorf("Power of 1 by %d, %d = %d, %v, %d", c.den, c.scale, k, exact, e)
		}
	}
}
