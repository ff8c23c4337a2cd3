package lengths

import (
	"quintadena/api"
	"quintadena/pitch"
	"quintadena/scaling"
)

const (
	maxMouth = 4 // times Bottom

	mouthNum, mouthDen = 575, 1000
	endDen             = 100000
	coneNum, coneDen   = 2, 3 // the part of Bottom that is the top of a cone
)

// kindOf is what differs between the kinds of pipes.
type kindOf struct {
	part int64 // thousandths of a wave that sound in a pipe
	end  int64 // parts of Top, over endDen, that the wave reaches beyond the end
}

// kinds has no kind at 0.
var kinds = [...]kindOf{
	api.BdOpen:    {500, 30665},
	api.BdStopped: {250, 0},
	api.BdCone:    {500, 30665},
}

// Check returns the error of a bad argument.
func Check(b api.BdBody) api.Errno {
	// The sizes come before the mouth, since four times a Bottom that is not valid might not fit.
	if !isKind(b.Kind) || !hasSizes(b) || !hasMouth(b) {
		return api.ErrArg
	}
	return api.OK
}

// Body returns the pipe of a scale at a note.
func Body(s api.SlScale, note, kind int) (api.BdBody, api.Errno) {
	width, cut, e := scaling.Mouth(s, note)
	if e != api.OK {
		return api.BdBody{}, e
	}
	if !isKind(kind) {
		return api.BdBody{}, api.ErrArg
	}
	// No error is possible: where there is a mouth, there is a diameter.
	wide, _ := scaling.Diameter(s, note)
	b := api.BdBody{Kind: kind, Bottom: wide.Lo, Top: wide.Lo, Mouth: width.Lo, Cut: cut.Lo}
	if kind == api.BdCone {
		b.Top = b.Bottom * coneNum / coneDen
	}
	if Check(b) != api.OK {
		return api.BdBody{}, api.ErrRange
	}
	return b, api.OK
}

func isKind(k int) bool {
	return 0 < k && k < len(kinds)
}

func hasSizes(b api.BdBody) bool {
	if !within(b.Bottom, api.MinBdDiameter, api.MaxBdDiameter) {
		return false
	}
	if b.Kind == api.BdCone {
		return within(b.Top, api.MinBdDiameter, b.Bottom-1)
	}
	return b.Top == b.Bottom
}

func hasMouth(b api.BdBody) bool {
	return within(b.Mouth, 1, maxMouth*b.Bottom) && within(b.Cut, 1, maxMouth*b.Bottom)
}

func within(n, least, most int64) bool {
	return least <= n && n <= most
}

// The functions below need a pipe that is valid. Then their calculations are possible: no root is below 1, and nothing is above 10^15.

// correction returns by how much the wave is longer than the pipe.
func correction(b api.BdBody) calculation {
	return atMouth(b).plus(atEnd(b))
}

func atMouth(b api.BdBody) calculation {
	square := number(b.Bottom).times(number(b.Bottom))
	opening := number(b.Mouth).times(number(b.Cut))
	return square.scaled(mouthNum, mouthDen).over(opening.squareRoot())
}

func atEnd(b api.BdBody) calculation {
	return number(b.Top).scaled(kinds[b.Kind].end, endDen)
}

// slowest returns how long what sounds in a pipe is at one millihertz, so that a division by a frequency makes it a sounding length, and one by that a frequency.
func slowest(b api.BdBody, temp int64) calculation {
	return calculated(pitch.Speed(temp)).scaled(kinds[b.Kind].part, 1)
}
