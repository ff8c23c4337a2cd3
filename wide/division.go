package wide

import (
	"math"
	"math/bits"
	"slices"

	"quintadena/api"
)

// DivMod returns how often b is in a, and what is left.
func DivMod(a, b api.Nat) (q, r api.Nat, e api.Errno) {
	if e := examine(a, b); e != api.OK {
		return nil, nil, e
	}
	if isZero(b) {
		return nil, nil, api.ErrNone
	}
	q, r = divide(a, b)
	return q, r, api.OK
}

// divide returns how often b, which is not 0, is in a, and what is left.
func divide(a, b api.Nat) (q, r api.Nat) {
	if compare(a, b) < 0 {
		return nil, clone(a)
	}
	if len(b) == 1 {
		q, last := divideByLimb(a, b[0])
		return q, Of(uint64(last))
	}
	// Limbs of the quotient are guessed well only if the highest bit of the divisor is 1.
	shift := bits.LeadingZeros32(b[len(b)-1])
	divisor := shiftUp(b, shift)
	rest := make(api.Nat, len(a)+1)
	copy(rest, shiftUp(a, shift))
	q = make(api.Nat, len(a)-len(b)+1)
	for i := len(q) - 1; i >= 0; i-- {
		q[i] = takeOut(rest[i:i+len(divisor)+1], divisor)
	}
	return trim(q), shiftDown(trim(rest), shift)
}

// divideByLimb is divide for a divisor of one limb.
func divideByLimb(a api.Nat, b uint32) (api.Nat, uint32) {
	q := make(api.Nat, len(a))
	var rest uint64
	for i, limb := range slices.Backward(a) {
		x := rest<<limbBits | uint64(limb)
		q[i], rest = uint32(x/uint64(b)), x%uint64(b)
	}
	return trim(q), uint32(rest)
}

// takeOut returns how often b is in a, and leaves the rest in a. The highest bit of b is 1; a has one limb more than b and is below b times 2^32.
func takeOut(a, b api.Nat) uint32 {
	n := guess(a, b)
	if takeTimes(a, b, n) {
		n--
		addTimes(a, b, 1)
	}
	return n
}

// guess returns how often b is in a, or 1 more: it looks at two limbs of b and three of a (Knuth's algorithm D).
func guess(a, b api.Nat) uint32 {
	high, low := uint64(b[len(b)-1]), uint64(b[len(b)-2])
	top, next := uint64(a[len(b)])<<limbBits|uint64(a[len(b)-1]), uint64(a[len(b)-2])
	n, rest := top/high, top%high
	for rest <= math.MaxUint32 && (n > math.MaxUint32 || n*low > rest<<limbBits|next) {
		n--
		rest += high
	}
	return uint32(n)
}
