package wide

import "quintadena/api"

const maxFractionPower = 2000

// Proper reports whether q is proper.
func Proper(q api.Quo) bool {
	if examine(q.Num, q.Den) != api.OK || isZero(q.Den) || q.Neg && isZero(q.Num) {
		return false
	}
	// The common divisor with 0 is Den, so this also asks for a Den of 1 then.
	return isOne(commonDivisor(q.Num, q.Den))
}

// Ratio returns num / den, taken negative if neg.
func Ratio(neg bool, num, den api.Nat) (api.Quo, api.Errno) {
	if e := examine(num, den); e != api.OK {
		return api.Quo{}, e
	}
	if isZero(den) {
		return api.Quo{}, api.ErrNone
	}
	return lowest(neg, num, den)
}

// QAdd returns a + b.
func QAdd(a, b api.Quo) (api.Quo, api.Errno) {
	if e := examineFractions(a, b); e != api.OK {
		return api.Quo{}, e
	}
	return fractionSum(a, b)
}

// QSub returns a - b.
func QSub(a, b api.Quo) (api.Quo, api.Errno) {
	if e := examineFractions(a, b); e != api.OK {
		return api.Quo{}, e
	}
	return fractionSum(a, api.Quo{Neg: !b.Neg, Num: b.Num, Den: b.Den})
}

// QMul returns a times b.
func QMul(a, b api.Quo) (api.Quo, api.Errno) {
	if e := examineFractions(a, b); e != api.OK {
		return api.Quo{}, e
	}
	return lowest(a.Neg != b.Neg, product(a.Num, b.Num), product(a.Den, b.Den))
}

// QDiv returns a / b.
func QDiv(a, b api.Quo) (api.Quo, api.Errno) {
	if e := examineFractions(a, b); e != api.OK {
		return api.Quo{}, e
	}
	if isZero(b.Num) {
		return api.Quo{}, api.ErrNone
	}
	return lowest(a.Neg != b.Neg, product(a.Num, b.Den), product(a.Den, b.Num))
}

// QCmp compares a with b.
func QCmp(a, b api.Quo) (int, api.Errno) {
	if e := examineFractions(a, b); e != api.OK {
		return 0, e
	}
	if a.Neg != b.Neg {
		return sign(a.Neg), api.OK
	}
	order := compare(product(a.Num, b.Den), product(b.Num, a.Den))
	if a.Neg {
		order = -order
	}
	return order, api.OK
}

// QFloor returns the greatest whole number that is at most a: whether it is below 0, and its absolute value.
func QFloor(a api.Quo) (neg bool, n api.Nat, e api.Errno) {
	if e := examineFractions(a); e != api.OK {
		return false, nil, e
	}
	n, rest := divide(a.Num, a.Den)
	if a.Neg && !isZero(rest) {
		n = sum(n, api.Nat{1})
	}
	return a.Neg, n, api.OK
}

// QPow returns the k-th power of a.
func QPow(a api.Quo, k int) (api.Quo, api.Errno) {
	if e := examineFractions(a); e != api.OK {
		return api.Quo{}, e
	}
	if k < -maxFractionPower || k > maxFractionPower {
		return api.Quo{}, api.ErrArg
	}
	num, den := a.Num, a.Den
	if k < 0 {
		num, den, k = den, num, -k
	}
	if isZero(den) {
		return api.Quo{}, api.ErrNone
	}
	// Powers of numbers without a common divisor have none either.
	n, e1 := powerWithin(num, k)
	d, e2 := powerWithin(den, k)
	if e1 != api.OK || e2 != api.OK {
		return api.Quo{}, api.ErrLong
	}
	return api.Quo{Neg: a.Neg && k%2 == 1, Num: n, Den: d}, api.OK
}

// examineFractions returns the error of bad arguments.
func examineFractions(l ...api.Quo) api.Errno {
	for _, q := range l {
		if examine(q.Num, q.Den) == api.ErrLong {
			return api.ErrLong
		}
	}
	for _, q := range l {
		if !Proper(q) {
			return api.ErrArg
		}
	}
	return api.OK
}

// lowest returns the proper fraction num / den, or ErrLong if one of its numbers has too many limbs.
func lowest(neg bool, num, den api.Nat) (api.Quo, api.Errno) {
	common := commonDivisor(num, den)
	num, _ = divide(num, common)
	den, _ = divide(den, common)
	if len(num) > api.MaxLimbs || len(den) > api.MaxLimbs {
		return api.Quo{}, api.ErrLong
	}
	return api.Quo{Neg: neg && !isZero(num), Num: num, Den: den}, api.OK
}

// fractionSum returns a + b. Here 0 may be Neg.
func fractionSum(a, b api.Quo) (api.Quo, api.Errno) {
	x, y := product(a.Num, b.Den), product(b.Num, a.Den)
	den := product(a.Den, b.Den)
	switch {
	case a.Neg == b.Neg:
		return lowest(a.Neg, sum(x, y), den)
	case compare(x, y) < 0:
		return lowest(b.Neg, difference(y, x), den)
	default:
		return lowest(a.Neg, difference(x, y), den)
	}
}
