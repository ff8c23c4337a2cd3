package sheets

import (
	"math"
	"math/rand/v2"
	"testing"

	"quintadena/api"
)

// P9.1: known bodies, also at the limits.
func TestKnownBodies(t *testing.T) {
	for _, c := range []struct {
		diameter, length, seam int64
		want                   api.ShCut
	}{
		{100000, 1000000, 5000, api.ShCut{W: 319160, H: 1000000}},
		{1000, 1000, 0, api.ShCut{W: 3142, H: 1000}},
		{1000, 12000000, 20000, api.ShCut{W: 23142, H: 12000000}},
		{1000000, 12000000, 0, api.ShCut{W: 3141593, H: 12000000}},
		{1000000, 1000, 20000, api.ShCut{W: 3161593, H: 1000}},
		// 113 times pi is 355 less 0.00003, which is rounded up.
		{113000, 1000, 0, api.ShCut{W: 355000, H: 1000}},
		{226000, 1000, 1, api.ShCut{W: 710001, H: 1000}},
	} {
		if x, e := Body(c.diameter, c.length, c.seam); x != c.want || e != api.OK {
			t.Errorf("Body(%d, %d, %d) = %v, %d, want %v", c.diameter, c.length, c.seam, x, e, c.want)
		}
	}
}

// anyPipe returns a valid diameter, length and seam.
func anyPipe(source *rand.Rand) (diameter, length, seam int64) {
	return between(source, 1000, 1000000), between(source, 1000, 12000000), between(source, 0, 20000)
}

// P9.1: bodies as they are defined.
func TestBodies(t *testing.T) {
	source := rand.New(rand.NewPCG(9, 1))
	for range 5000 {
		diameter, length, seam := anyPipe(source)
		if x, e := Body(diameter, length, seam); x != bodyOf(diameter, length, seam) || e != api.OK {
			t.Errorf("Body(%d, %d, %d) = %v, %d", diameter, length, seam, x, e)
		}
	}
}

// badSizes are diameters, lengths and seams of which one is not valid.
func badSizes() [][3]int64 {
	var l [][3]int64
	for _, n := range []int64{999, 0, -1, -1000, 1000001, math.MinInt64, math.MaxInt64, 1 << 62} {
		l = append(l, [3]int64{n, 1000, 0}, [3]int64{n, 12000000, 20000})
	}
	for _, n := range []int64{999, 0, -1, -1000, 12000001, math.MinInt64, math.MaxInt64, 1 << 62} {
		l = append(l, [3]int64{1000, n, 0}, [3]int64{1000000, n, 20000})
	}
	for _, n := range []int64{-1, 20001, math.MinInt64, math.MaxInt64, 1 << 62} {
		l = append(l, [3]int64{1000, 1000, n}, [3]int64{1000000, 12000000, n})
	}
	return l
}

// P9.1: sizes that are not valid.
func TestBadBodies(t *testing.T) {
	for _, s := range badSizes() {
		if x, e := Body(s[0], s[1], s[2]); x != (api.ShCut{}) || e != api.ErrArg {
			t.Errorf("Body(%v) = %v, %d", s, x, e)
		}
	}
}

// P9.2: known feet, also at the limits.
func TestKnownFeet(t *testing.T) {
	for _, c := range []struct {
		top, toe, length, seam int64
		want                   api.ShCut
	}{
		{100000, 100000, 200000, 0, api.ShCut{W: 314160, H: 200000}},
		{100000, 0, 200000, 0, api.ShCut{W: 314160, H: 266000}},
		{100000, 0, 200000, 7, api.ShCut{W: 314167, H: 266000}},
		// The slant is 2500 exactly, and 9.8697 times 3000 times 3000, over 20000, is 4441.4.
		{3000, 0, 2000, 0, api.ShCut{W: 9425, H: 6942}},
		// The slant is 1000.0005, from 1000 to 1001, and 9.8697 times 1000 times 2, over 8000, is 2.5.
		{1000, 998, 1000, 0, api.ShCut{W: 3142, H: 1004}},
		{1000, 1000, 1000, 20000, api.ShCut{W: 23142, H: 1000}},
		{1000000, 1000000, 12000000, 20000, api.ShCut{W: 3161593, H: 12000000}},
		// The slant is 12010412.1, and 9.8696 times 10^12, over 8 times that, is 102719.2.
		{1000000, 0, 12000000, 0, api.ShCut{W: 3141593, H: 12113133}},
		// The slant is 500001.0, from 500000 to 500001, and 9.8696 times 10^12 over 4000000 is 2467401.1.
		{1000000, 0, 1000, 0, api.ShCut{W: 3141593, H: 2967403}},
	} {
		if x, e := Foot(c.top, c.toe, c.length, c.seam); x != c.want || e != api.OK {
			t.Errorf("Foot(%d, %d, %d, %d) = %v, %d, want %v", c.top, c.toe, c.length, c.seam, x, e, c.want)
		}
	}
}

// P9.2: feet as they are defined.
func TestFeet(t *testing.T) {
	source := rand.New(rand.NewPCG(9, 2))
	for range 10000 {
		top, length, seam := anyPipe(source)
		toe := between(source, 0, top)
		if source.IntN(4) == 0 {
			toe = top - between(source, 0, min(top, 100))
		}
		if x, e := Foot(top, toe, length, seam); x != footOf(top, toe, length, seam) || e != api.OK {
			t.Errorf("Foot(%d, %d, %d, %d) = %v, %d, want %v", top, toe, length, seam, x, e, footOf(top, toe, length, seam))
		}
	}
}

// P9.2: feet whose slants are whole, or halves of whole numbers.
func TestWholeSlants(t *testing.T) {
	source := rand.New(rand.NewPCG(9, 3))
	for range 2000 {
		// 2 length, top - toe and 2 slant are k (m m - n n), 2 k m n and k (m m + n n), or the first two exchanged.
		m := 2 + source.Int64N(300)
		n := 1 + source.Int64N(m-1)
		k := 1 + source.Int64N(50)
		a, b := k*(m*m-n*n), 2*k*m*n
		if source.IntN(2) == 0 {
			a, b = b, a
		}
		if a%2 != 0 || a < 2000 || a > 24000000 || b > 1000000 {
			continue
		}
		top := between(source, max(1000, b), 1000000)
		x, e := Foot(top, top-b, a/2, 0)
		if x != footOf(top, top-b, a/2, 0) || e != api.OK {
			t.Errorf("Foot(%d, %d, %d, 0) = %v, %d", top, top-b, a/2, x, e)
		}
	}
}

// P9.2: sizes that are not valid are ErrArg, also where toe is greater than top.
func TestBadFeet(t *testing.T) {
	look := func(top, toe, length, seam int64, want api.Errno) {
		t.Helper()
		if x, e := Foot(top, toe, length, seam); x != (api.ShCut{}) || e != want {
			t.Errorf("Foot(%d, %d, %d, %d) = %v, %d, want %d", top, toe, length, seam, x, e, want)
		}
	}
	for _, s := range badSizes() {
		for _, toe := range []int64{0, 999, 1000, 1000000, 1000001, -1} {
			look(s[0], toe, s[1], s[2], api.ErrArg)
		}
	}
	for _, toe := range []int64{-1, 1000001, math.MinInt64, math.MaxInt64} {
		look(1000, toe, 1000, 0, api.ErrArg)
		look(1000000, toe, 12000000, 20000, api.ErrArg)
	}
	look(1000, 1001, 1000, 0, api.ErrRange)
	look(1000, 1000000, 1000, 20000, api.ErrRange)
	look(999999, 1000000, 12000000, 0, api.ErrRange)
}
