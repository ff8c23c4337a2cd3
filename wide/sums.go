package wide

import "quintadena/api"

const maxShift = 20000

// Shift returns a times 2^n, rounded down.
func Shift(a api.Nat, n int) (api.Nat, api.Errno) {
	if e := examine(a); e != api.OK {
		return nil, e
	}
	if n < -maxShift || n > maxShift {
		return nil, api.ErrArg
	}
	if n < 0 {
		return shiftDown(a, -n), api.OK
	}
	return within(shiftUp(a, n))
}

// Add returns a + b.
func Add(a, b api.Nat) (api.Nat, api.Errno) {
	if e := examine(a, b); e != api.OK {
		return nil, e
	}
	return within(sum(a, b))
}

// Sub returns a - b.
func Sub(a, b api.Nat) (api.Nat, api.Errno) {
	if e := examine(a, b); e != api.OK {
		return nil, e
	}
	if compare(a, b) < 0 {
		return nil, api.ErrRange
	}
	return difference(a, b), api.OK
}

// Mul returns a times b.
func Mul(a, b api.Nat) (api.Nat, api.Errno) {
	if e := examine(a, b); e != api.OK {
		return nil, e
	}
	return within(product(a, b))
}

// shiftUp returns a times 2^n, for n from 0 on.
func shiftUp(a api.Nat, n int) api.Nat {
	if isZero(a) {
		return nil
	}
	limbs, rest := n/limbBits, n%limbBits
	r := make(api.Nat, limbs+len(a)+1)
	copy(r[limbs:], a)
	for i := len(r) - 1; i > limbs; i-- {
		// A shift by all bits of a limb, if rest is 0, gives 0.
		r[i] = r[i]<<rest | r[i-1]>>(limbBits-rest)
	}
	r[limbs] <<= rest
	return trim(r)
}

// shiftDown returns a / 2^n, rounded down, for n from 0 on.
func shiftDown(a api.Nat, n int) api.Nat {
	limbs, rest := n/limbBits, n%limbBits
	if limbs >= len(a) {
		return nil
	}
	r := make(api.Nat, len(a)-limbs)
	copy(r, a[limbs:])
	for i := range len(r) - 1 {
		r[i] = r[i]>>rest | r[i+1]<<(limbBits-rest)
	}
	r[len(r)-1] >>= rest
	return trim(r)
}

func sum(a, b api.Nat) api.Nat {
	r := make(api.Nat, max(len(a), len(b))+1)
	copy(r, a)
	addTimes(r, b, 1)
	return trim(r)
}

// difference returns a - b, for b from 0 to a.
func difference(a, b api.Nat) api.Nat {
	r := clone(a)
	takeTimes(r, b, 1)
	return trim(r)
}

func product(a, b api.Nat) api.Nat {
	r := make(api.Nat, len(a)+len(b))
	for i := range len(a) {
		addTimes(r[i:], b, a[i])
	}
	return trim(r)
}

// addTimes adds n times b to a, which has at least as many limbs; what does not fit in them is lost.
func addTimes(a, b api.Nat, n uint32) {
	var carry uint64
	for i := range len(b) {
		// At most (2^32 - 1)^2 + 2 (2^32 - 1), which is 2^64 - 1.
		x := uint64(b[i])*uint64(n) + uint64(a[i]) + carry
		a[i], carry = uint32(x), x>>limbBits
	}
	for i := len(b); i < len(a) && carry > 0; i++ {
		x := uint64(a[i]) + carry
		a[i], carry = uint32(x), x>>limbBits
	}
}

// takeTimes takes n times b from a, which has at least as many limbs, and reports whether a was too small; then its limbs have wrapped around.
func takeTimes(a, b api.Nat, n uint32) bool {
	var borrow uint64
	for i := range len(b) {
		x := uint64(b[i])*uint64(n) + borrow
		borrow = x >> limbBits
		if a[i] < uint32(x) {
			borrow++
		}
		a[i] -= uint32(x)
	}
	for i := len(b); i < len(a) && borrow > 0; i++ {
		x := uint64(a[i]) - borrow
		// What would be below 0 has wrapped around to a number whose highest bit is 1.
		a[i], borrow = uint32(x), x>>63
	}
	return borrow > 0
}
