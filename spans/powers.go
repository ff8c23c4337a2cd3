package spans

import "quintadena/api"

const maxPower = 62

// Pow returns the span of all x^k.
func Pow(a api.Iv, k int) (api.Iv, api.Errno) {
	if e := examine(a); e != api.OK {
		return api.Iv{}, e
	}
	if k < 0 || k > maxPower {
		return api.Iv{}, api.ErrArg
	}
	if k%2 == 0 {
		a = sizes(a)
	}
	lo, loFits := power(a.Lo, k)
	hi, hiFits := power(a.Hi, k)
	if !loFits || !hiFits {
		return api.Iv{}, api.ErrRange
	}
	return api.Iv{Lo: lo, Hi: hi}, api.OK
}

// Root returns the span of the numbers from 0 on whose k-th power is a member of a.
func Root(a api.Iv, k int) (api.Iv, api.Errno) {
	if e := examine(a); e != api.OK {
		return api.Iv{}, e
	}
	if k < 1 || k > maxPower {
		return api.Iv{}, api.ErrArg
	}
	if a.Lo < 0 {
		return api.Iv{}, api.ErrDown
	}
	hi := root(a.Hi, k)
	if p, _ := power(hi, k); p < a.Hi {
		hi++
	}
	return api.Iv{Lo: root(a.Lo, k), Hi: hi}, api.OK
}

// sizes returns the span of the absolute values; even powers are those of them, and grow with them.
func sizes(a api.Iv) api.Iv {
	switch {
	case a.Lo >= 0:
		return a
	case a.Hi <= 0:
		return minus(a)
	}
	return api.Iv{Hi: max(-a.Lo, a.Hi)}
}

// power returns x^k, if it is allowed as a bound. Once a power is not, no later one is.
func power(x int64, k int) (int64, bool) {
	p, fits := int64(1), true
	for range k {
		if p, fits = times(p, x).bound(); !fits {
			return 0, false
		}
	}
	return p, true
}

// root returns the greatest number whose k-th power is at most n, bit by bit.
func root(n int64, k int) int64 {
	var r int64
	for bit := int64(api.MaxIv); bit > 0; bit /= 2 {
		if p, fits := power(r+bit, k); fits && p <= n {
			r += bit
		}
	}
	return r
}
