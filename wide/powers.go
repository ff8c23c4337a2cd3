package wide

import "quintadena/api"

const (
	maxPower = 20000
	maxRoot  = 64
)

// Pow returns the product of k factors a.
func Pow(a api.Nat, k int) (api.Nat, api.Errno) {
	if e := examine(a); e != api.OK {
		return nil, e
	}
	if k < 0 || k > maxPower {
		return nil, api.ErrArg
	}
	return powerWithin(a, k)
}

// Root returns the greatest number whose k-th power is at most a.
func Root(a api.Nat, k int) (api.Nat, api.Errno) {
	if e := examine(a); e != api.OK {
		return nil, e
	}
	if k < 1 || k > maxRoot {
		return nil, api.ErrArg
	}
	return root(a, k), api.OK
}

// powerWithin returns the k-th power of a, or ErrLong if it has too many limbs.
func powerWithin(a api.Nat, k int) (api.Nat, api.Errno) {
	// 2^(bits - 1) is at most a, so its power has too many limbs already. Otherwise that of a has at most twice as many limbs as are allowed.
	if (length(a)-1)*k >= limbBits*api.MaxLimbs {
		return nil, api.ErrLong
	}
	return within(power(a, k))
}

func power(a api.Nat, k int) api.Nat {
	if k == 0 {
		return api.Nat{1}
	}
	half := power(a, k/2)
	p := product(half, half)
	if k%2 == 1 {
		p = product(p, a)
	}
	return p
}

// root returns the k-th root of a, rounded down, by Newton's method.
func root(a api.Nat, k int) api.Nat {
	if isZero(a) {
		return nil
	}
	// The mean of x, k - 1 times, and a / x^(k - 1) is never below the root, and below x as long as x is above the root. So x begins above it.
	x := shiftUp(api.Nat{1}, (length(a)+k-1)/k)
	for {
		other, _ := divide(a, power(x, k-1))
		mean, _ := divideByLimb(sum(product(x, Of(uint64(k-1))), other), uint32(k))
		if compare(mean, x) >= 0 {
			return x
		}
		x = mean
	}
}
