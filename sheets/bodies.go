package sheets

import (
	"quintadena/api"
	"quintadena/spans"
)

// Body returns the rectangle that is bent to a cylinder.
func Body(diameter, length, seam int64) (api.ShCut, api.Errno) {
	if !isPipe(diameter, length, seam) {
		return api.ShCut{}, api.ErrArg
	}
	return api.ShCut{W: around(diameter) + seam, H: length}, api.OK
}

// Foot returns a rectangle in which the developed cone of a foot lies.
func Foot(top, toe, length, seam int64) (api.ShCut, api.Errno) {
	if !isPipe(top, length, seam) || !within(toe, 0, api.MaxBore) {
		return api.ShCut{}, api.ErrArg
	}
	if toe > top {
		return api.ShCut{}, api.ErrRange
	}
	s := slant(top-toe, length)
	return api.ShCut{W: around(top) + seam, H: s.Hi + bulge(top*(top-toe), s)}, api.OK
}

func isPipe(diameter, length, seam int64) bool {
	return within(diameter, api.MinTall, api.MaxBore) && within(length, api.MinTall, api.MaxTall) && within(seam, 0, api.MaxSeam)
}

// The functions below need the sizes of a pipe. Then no error of spans is possible: nothing is above 10^15, and no slant is below MinTall.

// around returns what surely reaches around a pipe.
func around(diameter int64) int64 {
	v, _ := spans.Pi(number(diameter))
	return v.Hi
}

// slant returns how long the side of a cone is whose diameters differ.
func slant(differ, length int64) api.Iv {
	// That of a cone twice as long and twice as wide is a root of a whole number.
	twice, _ := spans.Root(number(4*length*length+differ*differ), 2)
	s, _ := spans.Scale(twice, 1, 2)
	return s
}

// bulge returns what the arcs of a developed cone need above its slant, at most; product is the diameter at the top, times how much the diameters differ.
func bulge(product int64, slant api.Iv) int64 {
	once, _ := spans.Pi(number(product))
	squared, _ := spans.Pi(once)
	slants, _ := spans.Scale(slant, 8, 1)
	x, _ := spans.Div(squared, slants)
	return x.Hi
}
