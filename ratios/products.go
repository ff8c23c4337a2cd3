package ratios

import "quintadena/api"

// maxResult is how far the results of Floor and Power may be from 0.
const maxResult = 1000000000000

// Sign returns 1, 0 or -1, if the product of l is greater than 1, equal to 1, or less.
func Sign(l []api.Term) (int, api.Errno) {
	if e := examineTerms(l); e != api.OK {
		return 0, e
	}
	return sign(l), api.OK
}

// Floor returns the greatest m for which 2^(m / scale) is not above the den-th root of the product, and whether both are equal.
func Floor(l []api.Term, den, scale int64) (m int64, exact bool, e api.Errno) {
	if e := examineTerms(l); e != api.OK {
		return 0, false, e
	}
	if !within(den, 1, api.MaxTermDen) || !within(scale, 1, api.MaxLogScale) {
		return 0, false, api.ErrArg
	}
	// The last place is for the power of 2 with which the others are compared.
	powers := make([]api.Term, 0, len(l)+1)
	for _, t := range l {
		powers = append(powers, api.Term{N: t.N, Num: t.Num * scale})
	}
	return search(-maxResult, func(m int64) int {
		return sign(append(powers, api.Term{N: 2, Num: -m * den}))
	})
}

// Power returns the greatest k that is not above scale times the den-th root of the product, and whether both are equal.
func Power(scale int64, l []api.Term, den int64) (k int64, exact bool, e api.Errno) {
	if e := examineTerms(l); e != api.OK {
		return 0, false, e
	}
	if !within(den, 1, api.MaxTermDen) || !within(scale, 1, api.MaxTermN) {
		return 0, false, api.ErrArg
	}
	// The last place is for the power of k with which the others are compared.
	powers := make([]api.Term, 0, len(l)+2)
	powers = append(powers, l...)
	powers = append(powers, api.Term{N: scale, Num: den})
	return search(0, func(k int64) int {
		// A product is above 0.
		if k == 0 {
			return 1
		}
		return sign(append(powers, api.Term{N: k, Num: -den}))
	})
}

// examineTerms returns the error of bad arguments.
func examineTerms(l []api.Term) api.Errno {
	if len(l) > api.MaxTerms {
		return api.ErrLong
	}
	for _, t := range l {
		if !within(t.N, 1, api.MaxTermN) || !within(t.Num, -api.MaxTermNum, api.MaxTermNum) {
			return api.ErrArg
		}
	}
	return api.OK
}

// search returns what is looked for, rounded down, and whether that is exact, or ErrRange if that is below least or above maxResult. The sign of what is looked for less n is order(n).
func search(least int64, order func(n int64) int) (n int64, exact bool, e api.Errno) {
	low, above := least, int64(maxResult+1)
	if order(low) < 0 || order(above) >= 0 {
		return 0, false, api.ErrRange
	}
	for above-low > 1 {
		middle := low + (above-low)/2
		if order(middle) < 0 {
			above = middle
		} else {
			low = middle
		}
	}
	return low, order(low) == 0, api.OK
}

// sign returns 1, 0 or -1, if the product is greater than 1, equal to 1, or less. The exponents may be those of Floor: up to 10^16 of terms, up to 10^18 of 2.
func sign(l []api.Term) int {
	s := estimate(l, 1)
	// Few products are so near to 1 that their factors must be looked at.
	if s != 0 || isOne(l) {
		return s
	}
	for words := 2; s == 0; words *= 2 {
		s = estimate(l, words)
	}
	return s
}

// isOne reports whether the product is 1: whether no power is left of the numbers that common divisors split the N into. A split makes the sum of all logarithms, taken as positive, no greater, so no exponent gets above what that is at first: 7.4 times 10^18 at most.
func isOne(l []api.Term) bool {
	var apart []api.Term // without common divisors
	rest := append([]api.Term(nil), l...)
next:
	for len(rest) > 0 {
		t := rest[len(rest)-1]
		rest = rest[:len(rest)-1]
		if t.N == 1 || t.Num == 0 {
			continue
		}
		for i, u := range apart {
			if d := gcd(t.N, u.N); d > 1 {
				apart = append(apart[:i], apart[i+1:]...)
				rest = append(rest, api.Term{N: t.N / d, Num: t.Num}, api.Term{N: u.N / d, Num: u.Num}, api.Term{N: d, Num: t.Num + u.Num})
				continue next
			}
		}
		apart = append(apart, t)
	}
	return len(apart) == 0
}
