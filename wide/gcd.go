package wide

import "quintadena/api"

// Gcd returns the greatest common divisor of a and b.
func Gcd(a, b api.Nat) (api.Nat, api.Errno) {
	if e := examine(a, b); e != api.OK {
		return nil, e
	}
	return commonDivisor(a, b), api.OK
}

// commonDivisor returns the greatest common divisor by Euclid's algorithm. A division at each step takes too long for the numbers of a fraction, so steps that the highest bits tell are made together (Lehmer).
func commonDivisor(a, b api.Nat) api.Nat {
	if compare(a, b) < 0 {
		a, b = b, a
	}
	for !isZero(b) {
		if s := stepsOf(a, b); s.some() {
			a, b = s.apply(a, b)
		} else {
			_, rest := divide(a, b)
			a, b = b, rest
		}
	}
	// If b was 0 from the start, a is still the argument.
	return clone(a)
}

// steps is what some steps of Euclid's algorithm make of a and b: p a - q b and s b - r a, or, if odd, their negatives.
type steps struct {
	p, q, r, s uint64
	odd        bool
}

// stepsOf returns the first steps with a and b, which is at most a, as far as they are certain.
func stepsOf(a, b api.Nat) steps {
	below := max(length(a)-64, 0)
	x, y := word(a, below), word(b, below)
	done := steps{p: 1, s: 1}
	for y > 0 {
		next := done.then(x / y)
		x, y = y, x%y
		// The bits below change x and y by less than q and s, so y remains from 0 to x. As s x is at most the first x, s is below 2^32 then.
		if y < next.s || x-y < next.q+next.s {
			break
		}
		done = next
	}
	return done
}

// some reports whether there are any steps.
func (m steps) some() bool {
	return m.r > 0
}

// then returns the steps m and one more, in which b is n times in a.
func (m steps) then(n uint64) steps {
	return steps{p: m.r, q: m.s, r: m.p + n*m.r, s: m.q + n*m.s, odd: !m.odd}
}

// apply returns what the steps make of a and b.
func (m steps) apply(a, b api.Nat) (api.Nat, api.Nat) {
	if m.odd {
		return timesLess(b, m.q, a, m.p), timesLess(a, m.r, b, m.s)
	}
	return timesLess(a, m.p, b, m.q), timesLess(b, m.s, a, m.r)
}

// timesLess returns n a - m b, which is at least 0, for n and m below 2^32.
func timesLess(a api.Nat, n uint64, b api.Nat, m uint64) api.Nat {
	r := make(api.Nat, max(len(a), len(b))+1)
	addTimes(r, a, uint32(n))
	takeTimes(r, b, uint32(m))
	return trim(r)
}
