package temper

import "quintadena/api"

// Standard returns the temperament that is known by this name.
func Standard(name string) (api.Temper, api.Errno) {
	switch name {
	case "equal":
		return api.Temper{Name: "equal", Wolf: 11, Parts: narrow(12, 0, 1, 2, 3, 4, 5, 6, 7, 8, 9, 10)}, api.OK
	case "pythagorean":
		return api.Temper{Name: "pythagorean", Wolf: 8, Parts: narrow(1)}, api.OK
	case "meantone":
		return api.Temper{Name: "meantone", Syntonic: true, Wolf: 8, Parts: narrow(4, 0, 1, 2, 3, 4, 5, 6, 7, 9, 10, 11)}, api.OK
	case "werckmeister":
		return api.Temper{Name: "werckmeister", Wolf: 11, Parts: narrow(4, 0, 1, 2, 5)}, api.OK
	case "kirnberger":
		return api.Temper{Name: "kirnberger", Syntonic: true, Wolf: 6, Parts: narrow(4, 0, 1, 2, 3)}, api.OK
	case "vallotti":
		return api.Temper{Name: "vallotti", Wolf: 6, Parts: narrow(6, 0, 1, 2, 3, 4, 11)}, api.OK
	case "young":
		return api.Temper{Name: "young", Wolf: 11, Parts: narrow(6, 0, 1, 2, 3, 4, 5)}, api.OK
	}
	return api.Temper{}, api.ErrNone
}

// narrow returns the parts where these fifths are narrower by 1 / den of the comma, and the others are pure.
func narrow(den int, fifths ...int) [classes]api.CommaPart {
	var parts [classes]api.CommaPart
	for i := range parts {
		parts[i].Den = 1
	}
	for _, i := range fifths {
		parts[i] = api.CommaPart{Num: 1, Den: den}
	}
	return parts
}
