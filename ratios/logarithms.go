package ratios

import (
	"math/bits"

	"quintadena/api"
)

const wordBits = 64

// estimate returns the sign of the logarithm of the product, or 0 if so many words do not show it.
//
// All logarithms are to the base 2. After j steps, 2^j times the logarithm of each N is a whole number and a rest from 0 to below 2, and sum is what the whole numbers make together. The rest is the logarithm of the mantissa, which is below 1, and what rounding has taken away: a mantissa of w bits that is rounded down loses less than 2^(2-w) of its logarithm, and each later step doubles that, so up to w - 2 steps lose less than 1 in all. So sum is off by less than doubt.
//
// Nothing here overflows: a sum that shows no sign is not above doubt, which is at most 2.4 times 10^18, and the next one not above 2.5 times that; the first one is at most 7.3 times 10^18.
func estimate(l []api.Term, words int) int {
	var sum, doubt int64
	mantissas := make([][]uint64, len(l))
	for i, t := range l {
		whole := bits.Len64(uint64(t.N)) - 1
		mantissas[i] = make([]uint64, words)
		mantissas[i][words-1] = uint64(t.N) << (wordBits - 1 - whole)
		sum += t.Num * int64(whole)
		doubt += 2 * max(t.Num, -t.Num)
	}
	room := make([]uint64, 2*words)
	for range wordBits*words - 1 {
		if sum > doubt {
			return 1
		}
		if sum < -doubt {
			return -1
		}
		sum *= 2
		for i, t := range l {
			if square(mantissas[i], room) {
				sum += t.Num
			}
		}
	}
	return 0
}

// square makes of the mantissa x, from 1 to below 2 (its highest bit is 1), its square, halved if that is at least 2, and reports whether it is. It needs room for twice as many words; what does not fit in x is lost. (Numbers of layer 2 do not serve here: they are bounded, and no bound is known for how near to 1 a product may be.)
func square(x, room []uint64) bool {
	n := len(x)
	clear(room)
	for i, word := range x {
		room[i+n] = addTimes(room[i:i+n], x, word)
	}
	if room[2*n-1]>>(wordBits-1) == 1 {
		copy(x, room[n:])
		return true
	}
	for i := range x {
		x[i] = room[n+i]<<1 | room[n+i-1]>>(wordBits-1)
	}
	return false
}

// addTimes adds n times b to a, which has as many words, and returns what does not fit in them.
func addTimes(a, b []uint64, n uint64) uint64 {
	var carry uint64
	for i, word := range b {
		// At most (2^64 - 1)^2 + 2 (2^64 - 1), which is 2^128 - 1.
		high, low := bits.Mul64(word, n)
		low, more := bits.Add64(low, a[i], 0)
		high += more
		a[i], more = bits.Add64(low, carry, 0)
		carry = high + more
	}
	return carry
}
