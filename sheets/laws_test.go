package sheets

import (
	"math"
	"math/rand/v2"
	"testing"

	"quintadena/api"
)

// developed returns how wide and how high the sector of a ring is to which a cone is developed, if its angle is at most half a turn.
func developed(top, toe, length float64) (wide, high float64) {
	slant := math.Hypot(length, (top-toe)/2)
	if top == toe {
		return math.Pi * top, slant
	}
	outer, angle := slant*top/(top-toe), math.Pi*(top-toe)/slant
	// The height is outer - inner cos(angle / 2), which is written so that great radii do no harm.
	s := math.Sin(angle / 4)
	return 2 * outer * math.Sin(angle/2), slant + 2*(outer-slant)*s*s
}

// P9.7: developed cones lie within the rectangles of feet, if their slants are as long as their diameters differ.
func TestFeetFit(t *testing.T) {
	source := rand.New(rand.NewPCG(9, 12))
	flat, tight := 0, 0
	for range 20000 {
		top, length, seam := anyPipe(source)
		toe := between(source, 0, top)
		if math.Hypot(float64(length), float64(top-toe)/2) < float64(top-toe) {
			flat++
			continue
		}
		x := sure(Foot(top, toe, length, seam))
		wide, high := developed(float64(top), float64(toe), float64(length))
		// The floats are off by much less than this.
		if slack := 1e-4; wide > float64(x.W-seam)+slack || high > float64(x.H)+slack {
			t.Errorf("Foot(%d, %d, %d, %d) = %v, but the cone is %v by %v", top, toe, length, seam, x, wide, high)
		}
		if high > float64(x.H)-float64(x.H)/1000 {
			tight++
		}
	}
	if flat > 15000 || tight < 1000 {
		t.Errorf("%d feet are too flat, %d cones are nearly as high as the rectangle", flat, tight)
	}
}

// P9.7: a foot that is a cylinder is a body.
func TestCylinders(t *testing.T) {
	source := rand.New(rand.NewPCG(9, 13))
	for range 2000 {
		top, length, seam := anyPipe(source)
		if foot, body := sure(Foot(top, top, length, seam)), sure(Body(top, length, seam)); foot != body {
			t.Errorf("Foot(%d, %d, %d, %d) = %v, and Body is %v", top, top, length, seam, foot, body)
		}
	}
}

// P9.8: Judge accepts nests, of which quick ones do not have fewer plates, and none has fewer than Least.
func TestNestsAreGood(t *testing.T) {
	source := rand.New(rand.NewPCG(9, 14))
	for range 3000 {
		p := anyPlate(source)
		l := anyCuts(source, p, source.IntN(9))
		nest, quick, least := sure(Nest(p, l)), sure(Quick(p, l)), sure(Least(p, l))
		if e := Judge(p, l, nest); e != api.OK {
			t.Errorf("Judge(%v, %v) of the nest %v is %d", p, l, nest, e)
		}
		if e := Judge(p, l, quick); e != api.OK {
			t.Errorf("Judge(%v, %v) of the quick nest %v is %d", p, l, quick, e)
		}
		if plates(quick) < plates(nest) || plates(nest) < least {
			t.Errorf("%v, %v: %v, %v and %d", p, l, quick, nest, least)
		}
	}
	for range 100 {
		p := anyPlate(source)
		l := anyCuts(source, p, 9+source.IntN(192))
		quick, least := sure(Quick(p, l)), sure(Least(p, l))
		if e := Judge(p, l, quick); e != api.OK || plates(quick) < least {
			t.Errorf("%v, %v: Judge of %v is %d, and Least is %d", p, l, quick, e, least)
		}
	}
}
