package spans

import (
	"math/bits"

	"quintadena/api"
)

// maxDiameter is a diameter whose square fits in an int64, while its disc is far above MaxIv.
const maxDiameter = 3000000000

// product is a product of two numbers, in two words: high times 2^64, plus low.
type product struct {
	high int64
	low  uint64
}

// Mul returns the span of all x y.
func Mul(a, b api.Iv) (api.Iv, api.Errno) {
	if e := examine(a, b); e != api.OK {
		return api.Iv{}, e
	}
	return productsOver(a, b, 1)
}

// Div returns the span of all x / y.
func Div(a, b api.Iv) (api.Iv, api.Errno) {
	if e := examine(a, b); e != api.OK {
		return api.Iv{}, e
	}
	if b.Lo <= 0 && 0 <= b.Hi {
		return api.Iv{}, api.ErrDown
	}
	if b.Hi < 0 {
		a, b = minus(a), minus(b)
	}
	// Divisors above 0 keep the order of what they divide, so the least quotient is one of the least member.
	lo := min(floor(a.Lo, b.Lo), floor(a.Lo, b.Hi))
	hi := max(ceiling(a.Hi, b.Lo), ceiling(a.Hi, b.Hi))
	return api.Iv{Lo: lo, Hi: hi}, api.OK
}

// Scale returns the span of all x num / den.
func Scale(a api.Iv, num, den int64) (api.Iv, api.Errno) {
	if e := examine(a); e != api.OK {
		return api.Iv{}, e
	}
	if den < 1 || !allowed(den) || !allowed(num) {
		return api.Iv{}, api.ErrArg
	}
	return productsOver(a, api.Iv{Lo: num, Hi: num}, den)
}

// Pi returns the span of all x y, where y is what pi may be.
func Pi(a api.Iv) (api.Iv, api.Errno) {
	if e := examine(a); e != api.OK {
		return api.Iv{}, e
	}
	return productsOver(a, api.Iv{Lo: api.PiLow, Hi: api.PiHigh}, api.PiOne)
}

// Disc returns the span of the areas of discs with the diameters of a.
func Disc(a api.Iv) (api.Iv, api.Errno) {
	if e := examine(a); e != api.OK {
		return api.Iv{}, e
	}
	if a.Lo < 0 {
		return api.Iv{}, api.ErrDown
	}
	if a.Hi > maxDiameter {
		return api.Iv{}, api.ErrRange
	}
	squares := api.Iv{Lo: a.Lo * a.Lo, Hi: a.Hi * a.Hi}
	return productsOver(squares, api.Iv{Lo: api.PiLow, Hi: api.PiHigh}, 4*api.PiOne)
}

// productsOver returns the span of all x y / den; den is above 0. The least and the greatest product are among those of the bounds.
func productsOver(a, b api.Iv, den int64) (api.Iv, api.Errno) {
	corners := [4]product{times(a.Lo, b.Lo), times(a.Lo, b.Hi), times(a.Hi, b.Lo), times(a.Hi, b.Hi)}
	least, greatest := corners[0], corners[0]
	for _, c := range corners {
		if c.below(least) {
			least = c
		}
		if greatest.below(c) {
			greatest = c
		}
	}
	lo, loFits := least.down(den).bound()
	hi, hiFits := greatest.up(den).bound()
	if !loFits || !hiFits {
		return api.Iv{}, api.ErrRange
	}
	return api.Iv{Lo: lo, Hi: hi}, api.OK
}

// times returns x y.
func times(x, y int64) product {
	high, low := bits.Mul64(uint64(x), uint64(y))
	// A word that stands for a number below 0 was taken for 2^64 more.
	if x < 0 {
		high -= uint64(y)
	}
	if y < 0 {
		high -= uint64(x)
	}
	return product{int64(high), low}
}

func (p product) below(q product) bool {
	if p.high == q.high {
		return p.low < q.low
	}
	return p.high < q.high
}

// down returns p / d, rounded down; d is above 0.
func (p product) down(d int64) product {
	if p.high < 0 {
		// Inverted bits make -1 - p of p, and p / d rounded down is -1 - q, if q is (-1 - p) / d rounded down.
		return p.inverted().down(d).inverted()
	}
	divisor := uint64(d)
	high, rest := bits.Div64(0, uint64(p.high), divisor)
	low, _ := bits.Div64(rest, p.low, divisor)
	return product{int64(high), low}
}

// up returns p / d, rounded up; d is above 0.
func (p product) up(d int64) product {
	return p.negative().down(d).negative()
}

func (p product) inverted() product {
	return product{^p.high, ^p.low}
}

func (p product) negative() product {
	low, borrow := bits.Sub64(0, p.low, 0)
	return product{-p.high - int64(borrow), low}
}

// bound returns p, if it is allowed as a bound.
func (p product) bound() (int64, bool) {
	n := int64(p.low)
	if p != times(n, 1) || !allowed(n) {
		return 0, false
	}
	return n, true
}

// floor returns x / y, rounded down; y is above 0.
func floor(x, y int64) int64 {
	if x%y < 0 {
		return x/y - 1
	}
	return x / y
}

// ceiling returns x / y, rounded up; y is above 0.
func ceiling(x, y int64) int64 {
	return -floor(-x, y)
}
