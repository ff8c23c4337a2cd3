package spans

import (
	"math"
	"math/rand/v2"
	"testing"

	"quintadena/api"
	"quintadena/wide"
)

func exactProduct(x, y api.Quo) api.Quo {
	return sure(wide.QMul(x, y))
}

func exactQuotient(x, y api.Quo) api.Quo {
	return sure(wide.QDiv(x, y))
}

// exactPi returns the bounds of pi.
func exactPi() []api.Quo {
	return []api.Quo{quotient(api.PiLow, api.PiOne), quotient(api.PiHigh, api.PiOne)}
}

// exactDisc returns x^2 y / 4.
func exactDisc(x, y api.Quo) api.Quo {
	return exactProduct(exactProduct(x, x), exactProduct(y, quotient(1, 4)))
}

// P3.2: Mul and Div of all intervals with small bounds, by their members.
func TestNarrowMulAndDiv(t *testing.T) {
	for _, a := range narrow(3) {
		for _, b := range narrow(3) {
			p, e := Mul(a, b)
			wantSpan(t, "Mul", p, e, members(a, 2), members(b, 2), exactProduct)
			q, e := Div(a, b)
			if has(b, 0) {
				wantError(t, "Div", q, e, api.ErrDown)
			} else {
				wantSpan(t, "Div", q, e, members(a, 2), members(b, 2), exactQuotient)
			}
		}
	}
}

// P3.2: Mul and Div.
func TestMulAndDiv(t *testing.T) {
	for _, a := range intervals(25) {
		for _, b := range intervals(26) {
			p, e := Mul(a, b)
			wantSpan(t, "Mul", p, e, bounds(a), bounds(b), exactProduct)
			q, e := Div(a, b)
			if has(b, 0) {
				wantError(t, "Div", q, e, api.ErrDown)
			} else {
				wantSpan(t, "Div", q, e, bounds(a), bounds(b), exactQuotient)
			}
		}
	}
}

// P3.2
func TestMulExamples(t *testing.T) {
	const half = 1 << 31
	for _, x := range []struct {
		a, b, want api.Iv
		e          api.Errno
	}{
		{iv(-2, 3), iv(4, 5), iv(-10, 15), api.OK},
		{iv(-2, 3), iv(-7, 1), iv(-21, 14), api.OK},
		{iv(-3, -2), iv(-5, -4), iv(8, 15), api.OK},
		{iv(half, half), iv(half, half), iv(most, most), api.OK},
		{iv(-half, half), iv(0, half), iv(-most, most), api.OK},
		{iv(half, half+1), iv(half, half), api.Iv{}, api.ErrRange},
		{iv(-half-1, 0), iv(0, half), api.Iv{}, api.ErrRange},
		{iv(1<<32, 1<<32), iv(1<<32, 1<<32), api.Iv{}, api.ErrRange},
		{iv(most, most), iv(4, 4), api.Iv{}, api.ErrRange},
		{iv(-most, most), iv(-most, most), api.Iv{}, api.ErrRange},
		{iv(-most, most), iv(0, 0), iv(0, 0), api.OK},
		{iv(-most, most), iv(-1, 1), iv(-most, most), api.OK},
	} {
		if got, e := Mul(x.a, x.b); got != x.want || e != x.e {
			t.Errorf("Mul(%v, %v) = %v, %d", x.a, x.b, got, e)
		}
	}
}

// P3.2
func TestDivExamples(t *testing.T) {
	for _, x := range []struct {
		a, b, want api.Iv
		e          api.Errno
	}{
		{iv(7, 8), iv(2, 3), iv(2, 4), api.OK},
		{iv(-7, 8), iv(-3, -2), iv(-4, 4), api.OK},
		{iv(-8, -7), iv(2, 3), iv(-4, -2), api.OK},
		{iv(1, 1), iv(3, 3), iv(0, 1), api.OK},
		{iv(-1, -1), iv(3, 3), iv(-1, 0), api.OK},
		{iv(1, 1), iv(-3, -3), iv(-1, 0), api.OK},
		{iv(6, 6), iv(3, 3), iv(2, 2), api.OK},
		{iv(-most, most), iv(-1, -1), iv(-most, most), api.OK},
		{iv(most, most), iv(most-1, most), iv(1, 2), api.OK},
		{iv(1, 1), iv(0, 2), api.Iv{}, api.ErrDown},
		{iv(1, 1), iv(-2, 0), api.Iv{}, api.ErrDown},
		{iv(1, 1), iv(-2, 2), api.Iv{}, api.ErrDown},
		{iv(0, 0), iv(0, 0), api.Iv{}, api.ErrDown},
	} {
		if got, e := Div(x.a, x.b); got != x.want || e != x.e {
			t.Errorf("Div(%v, %v) = %v, %d", x.a, x.b, got, e)
		}
	}
}

// P3.3: all intervals and factors that are small, by their members, and many others.
func TestScale(t *testing.T) {
	look := func(a api.Iv, l []api.Quo, num, den int64) {
		t.Helper()
		got, e := Scale(a, num, den)
		wantSpan(t, "Scale", got, e, l, []api.Quo{quotient(num, den)}, exactProduct)
	}
	for _, a := range narrow(3) {
		for num := int64(-5); num <= 5; num++ {
			for den := int64(1); den <= 5; den++ {
				look(a, members(a, 3), num, den)
			}
		}
	}
	source := rand.New(rand.NewPCG(3, 3))
	for _, a := range intervals(150) {
		for _, num := range []int64{random(source), most, -most, 1} {
			for _, den := range []int64{max(1, random(source)), max(1, -random(source)), most, most - 1, 1} {
				look(a, bounds(a), num, den)
			}
		}
	}
}

// P3.3
func TestScaleExamples(t *testing.T) {
	for _, x := range []struct {
		a        api.Iv
		num, den int64
		want     api.Iv
		e        api.Errno
	}{
		{iv(10, 11), 1, 3, iv(3, 4), api.OK},
		{iv(10, 11), -1, 3, iv(-4, -3), api.OK},
		{iv(-10, 11), 3, 2, iv(-15, 17), api.OK},
		{iv(-most, most), 0, 7, iv(0, 0), api.OK},
		{iv(-most, most), -most, most, iv(-most, most), api.OK},
		{iv(most, most), most - 1, most, iv(most-1, most-1), api.OK},
		{iv(most-1, most-1), most, most - 1, iv(most, most), api.OK},
		{iv(most, most), most, most - 1, api.Iv{}, api.ErrRange},
		{iv(0, 1), most, 1, iv(0, most), api.OK},
		{iv(0, 1), -most, 1, iv(-most, 0), api.OK},
		{iv(0, most/2+1), 2, 1, api.Iv{}, api.ErrRange},
		{iv(0, most/2+1), -2, 1, api.Iv{}, api.ErrRange},
		{iv(-most, most), most, 1, api.Iv{}, api.ErrRange},
		// 127 times this is 2^63 - 1, whose half is rounded up to what is just allowed.
		{iv(127, 127), 72624976668147841, 2, iv(most-1, most), api.OK},
		{iv(127, 127), -72624976668147841, 2, iv(-most, 1-most), api.OK},
		// 2097153 times this is 2^63 + 1, whose half is only rounded down to it.
		{iv(2097153, 2097153), 4398044413953, 2, api.Iv{}, api.ErrRange},
		{iv(2097153, 2097153), -4398044413953, 2, api.Iv{}, api.ErrRange},
		{iv(0, 2097153), -4398044413953, 2, api.Iv{}, api.ErrRange},
	} {
		if got, e := Scale(x.a, x.num, x.den); got != x.want || e != x.e {
			t.Errorf("Scale(%v, %d, %d) = %v, %d", x.a, x.num, x.den, got, e)
		}
	}
}

// P3.3: factors that are not valid, also where the result would not be either.
func TestScaleOfBadFactors(t *testing.T) {
	for _, den := range []int64{math.MinInt64, -most, -1, 0, most + 1, math.MaxInt64} {
		for _, num := range []int64{0, 1, most, -most, math.MinInt64} {
			got, e := Scale(iv(1, most), num, den)
			wantError(t, "Scale", got, e, api.ErrArg)
		}
	}
	for _, num := range []int64{math.MinInt64, -most - 1, most + 1, math.MaxInt64} {
		for _, den := range []int64{1, 2, most} {
			got, e := Scale(iv(0, most), num, den)
			wantError(t, "Scale", got, e, api.ErrArg)
		}
	}
}

// P3.5: all intervals with small bounds, by their members, and many others.
func TestPiAndDisc(t *testing.T) {
	look := func(a api.Iv, l []api.Quo) {
		t.Helper()
		p, e := Pi(a)
		wantSpan(t, "Pi", p, e, l, exactPi(), exactProduct)
		d, e := Disc(a)
		if a.Lo < 0 {
			wantError(t, "Disc", d, e, api.ErrDown)
		} else {
			wantSpan(t, "Disc", d, e, l, exactPi(), exactDisc)
		}
	}
	for _, a := range narrow(9) {
		look(a, members(a, 3))
	}
	for _, a := range intervals(600) {
		look(a, bounds(a))
	}
	// Around the greatest diameters and circumferences that are allowed.
	for _, center := range []int64{2423175810, 3000000000, 1 << 32, 1467945251641000612} {
		for n := center - 20; n <= center+20; n++ {
			look(iv(n, n), []api.Quo{number(n)})
			look(iv(-n, -n), []api.Quo{number(-n)})
		}
	}
}

// P3.5
func TestPiExamples(t *testing.T) {
	for _, x := range []struct {
		name    string
		call    unary
		a, want api.Iv
		e       api.Errno
	}{
		{"Pi", Pi, iv(1000000, 1000000), iv(3141592, 3141593), api.OK},
		{"Pi", Pi, iv(-1, 1), iv(-4, 4), api.OK},
		{"Pi", Pi, iv(-2, -1), iv(-7, -3), api.OK},
		{"Pi", Pi, iv(0, 0), iv(0, 0), api.OK},
		{"Pi", Pi, iv(api.PiOne, api.PiOne), iv(api.PiLow, api.PiHigh), api.OK},
		{"Pi", Pi, iv(-api.PiOne, api.PiOne), iv(-api.PiHigh, api.PiHigh), api.OK},
		{"Pi", Pi, iv(0, most), api.Iv{}, api.ErrRange},
		{"Pi", Pi, iv(-most, 0), api.Iv{}, api.ErrRange},
		{"Disc", Disc, iv(1000, 1000), iv(785398, 785399), api.OK},
		{"Disc", Disc, iv(0, 2), iv(0, 4), api.OK},
		{"Disc", Disc, iv(0, 0), iv(0, 0), api.OK},
		{"Disc", Disc, iv(2000000000, 2000000000), iv(api.PiLow, api.PiHigh), api.OK},
		{"Disc", Disc, iv(1, 1<<31), iv(0, 3622009729038561422), api.OK},
		{"Disc", Disc, iv(0, 3000000000), api.Iv{}, api.ErrRange},
		{"Disc", Disc, iv(0, 3000000001), api.Iv{}, api.ErrRange},
		{"Disc", Disc, iv(0, 1<<32), api.Iv{}, api.ErrRange},
		{"Disc", Disc, iv(most, most), api.Iv{}, api.ErrRange},
		{"Disc", Disc, iv(-1, 2), api.Iv{}, api.ErrDown},
		{"Disc", Disc, iv(-2, -1), api.Iv{}, api.ErrDown},
		{"Disc", Disc, iv(-1, most), api.Iv{}, api.ErrDown},
	} {
		if got, e := x.call(x.a); got != x.want || e != x.e {
			t.Errorf("%s(%v) = %v, %d, want %v, %d", x.name, x.a, got, e, x.want, x.e)
		}
	}
}
