package lengths

import (
	"math"
	"math/rand/v2"
	"testing"

	"quintadena/api"
)

// P8.1: known corrections.
func TestKnownCorrections(t *testing.T) {
	for _, c := range []struct {
		b          api.BdBody
		mouth, end api.Iv
	}{
		{open(), iv(71875, 71875), iv(15332, 15333)},
		{stopped(), iv(71875, 71875), iv(0, 0)},
		{cone(20000), iv(71875, 71875), iv(6133, 6133)},
		{cone(49999), iv(71875, 71875), iv(15332, 15333)},
		// The root of 2 is from 1 to 2, and makes the correction as wide.
		{api.BdBody{Kind: api.BdStopped, Bottom: 1000, Top: 1000, Mouth: 1, Cut: 2}, iv(287500, 575000), iv(0, 0)},
		// 575 times 1001 times 1001 is 576150575.
		{api.BdBody{Kind: api.BdOpen, Bottom: 1001, Top: 1001, Mouth: 1, Cut: 1}, iv(576150, 576151), iv(306, 307)},
		{api.BdBody{Kind: api.BdOpen, Bottom: 500000, Top: 500000, Mouth: 1, Cut: 1}, iv(143750000000, 143750000000), iv(153325, 153325)},
		{api.BdBody{Kind: api.BdCone, Bottom: 1001, Top: 1000, Mouth: 4004, Cut: 4004}, iv(143, 144), iv(306, 307)},
	} {
		if mouth, end, e := Correction(c.b); mouth != c.mouth || end != c.end || e != api.OK {
			t.Errorf("Correction(%v) = %v, %v, %d, want %v, %v", c.b, mouth, end, e, c.mouth, c.end)
		}
	}
}

// P8.1: corrections as they are defined.
func TestCorrections(t *testing.T) {
	source := rand.New(rand.NewPCG(8, 1))
	for range 5000 {
		b := anyBody(source)
		wantMouth, wantEnd := corrected(b)
		if mouth, end, e := Correction(b); mouth != wantMouth || end != wantEnd || e != api.OK {
			t.Errorf("Correction(%v) = %v, %v, %d, want %v, %v", b, mouth, end, e, wantMouth, wantEnd)
		}
	}
}

// P8.2: known lengths, and those at their limits.
func TestKnownLengths(t *testing.T) {
	// For 6900 millihertz, 12003623 to 12003624 micrometres sound in it at 0 degrees.
	lowest := api.BdBody{Kind: api.BdStopped, Bottom: 10000, Top: 10000, Mouth: 15866, Cut: 15866}
	wider := lowest
	wider.Mouth, wider.Cut = 15867, 15867
	for _, c := range []struct {
		b    api.BdBody
		f    api.Iv
		temp int64
		want api.Iv
		e    api.Errno
	}{
		{open(), iv(440000, 440000), 0, iv(289269, 289271), api.OK},
		{stopped(), iv(440000, 440000), 0, iv(116363, 116364), api.OK},
		{cone(20000), iv(440000, 440000), 0, iv(298469, 298470), api.OK},
		{open(), iv(330000, 440000), 0, iv(289269, 414763), api.OK},
		{open(), iv(20000000, 20000000), 0, api.Iv{}, api.ErrRange},
		{open(), iv(1000, 1000), 0, api.Iv{}, api.ErrRange},
		{open(), iv(1000, 20000000), 0, api.Iv{}, api.ErrRange},
		// 87209 micrometres sound, and are not longer than the correction.
		{open(), iv(1899459, 1899459), 0, iv(1, 3), api.OK},
		{open(), iv(1899460, 1899460), 0, api.Iv{}, api.ErrRange},
		{open(), iv(440000, 1899459), 0, iv(1, 289271), api.OK},
		{open(), iv(440000, 1899460), 0, api.Iv{}, api.ErrRange},
		{lowest, iv(6900, 6900), 0, iv(11999998, 12000000), api.OK},
		{lowest, iv(6900, 440000), 0, iv(184613, 12000000), api.OK},
		{wider, iv(6900, 6900), 0, api.Iv{}, api.ErrRange},
		{wider, iv(6900, 440000), 0, api.Iv{}, api.ErrRange},
	} {
		if v, e := Length(c.b, c.f, c.temp); v != c.want || e != c.e {
			t.Errorf("Length(%v, %v, %d) = %v, %d, want %v, %d", c.b, c.f, c.temp, v, e, c.want, c.e)
		}
	}
}

// P8.2: known frequencies, and those at their limits.
func TestKnownPitches(t *testing.T) {
	// The correction alone is 82824737017 to 82824737018 micrometres.
	slit := api.BdBody{Kind: api.BdStopped, Bottom: 379530, Top: 379530, Mouth: 1, Cut: 1}
	// The correction is 449 to 451 micrometres, 143 to 144 if it is stopped.
	least := api.BdBody{Kind: api.BdOpen, Bottom: 1000, Top: 1000, Mouth: 4000, Cut: 4000}
	plugged := least
	plugged.Kind = api.BdStopped
	for _, c := range []struct {
		b    api.BdBody
		l    api.Iv
		temp int64
		want api.Iv
		e    api.Errno
	}{
		{open(), iv(289270, 289270), 0, iv(439999, 440001), api.OK},
		{stopped(), iv(116363, 116364), 0, iv(439999, 440002), api.OK},
		{open(), iv(1, 12000000), 0, iv(13704, 1899482), api.OK},
		{slit, iv(262982, 262982), 0, iv(1, 2), api.OK},
		{slit, iv(262983, 262983), 0, api.Iv{}, api.ErrRange},
		{slit, iv(1, 262982), 0, iv(1, 2), api.OK},
		{slit, iv(1, 262983), 0, api.Iv{}, api.ErrRange},
		// No frequency is nearer to the limit.
		{least, iv(384, 384), 3142, iv(199520955, 199999999), api.OK},
		{least, iv(428, 428), 33101, api.Iv{}, api.ErrRange},
		{least, iv(384, 12000000), 3142, iv(13882, 199999999), api.OK},
		{least, iv(383, 12000000), 3142, api.Iv{}, api.ErrRange},
		{plugged, iv(289, 289), 24089, iv(199538103, 199999999), api.OK},
		{plugged, iv(295, 295), 32403, api.Iv{}, api.ErrRange},
		{plugged, iv(1, 1), 0, api.Iv{}, api.ErrRange},
	} {
		if v, e := Pitch(c.b, c.l, c.temp); v != c.want || e != c.e {
			t.Errorf("Pitch(%v, %v, %d) = %v, %d, want %v, %d", c.b, c.l, c.temp, v, e, c.want, c.e)
		}
	}
}

// tally counts results and errors, so that a test can't pass without both.
type tally struct{ fine, wrong int }

func (n *tally) add(e api.Errno) {
	if e == api.OK {
		n.fine++
	} else {
		n.wrong++
	}
}

func (n *tally) check(t *testing.T, least int) {
	t.Helper()
	if n.fine < least || n.wrong < least {
		t.Errorf("%d results and %d errors", n.fine, n.wrong)
	}
}

// P8.2: lengths and frequencies as they are defined.
func TestLengthsAndPitches(t *testing.T) {
	source := rand.New(rand.NewPCG(8, 2))
	var counted tally
	for range 4000 {
		b, f, l, temp := anyBody(source), anyFrequency(source), anyLength(source), anyTemp(source)
		want, e := lengthOf(b, f, temp)
		if got, gotE := Length(b, f, temp); got != want || gotE != e {
			t.Errorf("Length(%v, %v, %d) = %v, %d, want %v, %d", b, f, temp, got, gotE, want, e)
		}
		counted.add(e)
		want, e = pitchOf(b, l, temp)
		if got, gotE := Pitch(b, l, temp); got != want || gotE != e {
			t.Errorf("Pitch(%v, %v, %d) = %v, %d, want %v, %d", b, l, temp, got, gotE, want, e)
		}
	}
	counted.check(t, 100)
}

// P8.2: lengths around their limits, as they are defined.
func TestLengthsAtLimits(t *testing.T) {
	source := rand.New(rand.NewPCG(8, 3))
	var counted tally
	for range 300 {
		b, temp := anyBody(source), anyTemp(source)
		w, x := wave(b, temp).Lo, both(b).Hi
		for _, around := range []int64{w / x, w / (x + 12000000)} {
			for f := max(1000, around-3); f <= min(20000000, around+3); f++ {
				want, e := lengthOf(b, iv(f, f), temp)
				if got, gotE := Length(b, iv(f, f), temp); got != want || gotE != e {
					t.Errorf("Length(%v, %d, %d) = %v, %d, want %v, %d", b, f, temp, got, gotE, want, e)
				}
				counted.add(e)
			}
		}
	}
	counted.check(t, 100)
}

// lookAtPitches compares Pitch with the reference, for the lengths around one.
func lookAtPitches(t *testing.T, counted *tally, b api.BdBody, around, temp int64) {
	t.Helper()
	for l := max(1, around-3); l <= min(12000000, around+3); l++ {
		want, e := pitchOf(b, iv(l, l), temp)
		if got, gotE := Pitch(b, iv(l, l), temp); got != want || gotE != e {
			t.Errorf("Pitch(%v, %d, %d) = %v, %d, want %v, %d", b, l, temp, got, gotE, want, e)
		}
		counted.add(e)
	}
}

// P8.2: the greatest frequencies, which small pipes with great mouths have.
func TestGreatestPitches(t *testing.T) {
	source := rand.New(rand.NewPCG(8, 4))
	var counted tally
	for range 500 {
		size := between(source, 1000, 1400)
		b := api.BdBody{Kind: api.BdOpen + source.IntN(2), Bottom: size, Top: size, Mouth: 4 * size, Cut: 4 * size}
		temp := anyTemp(source)
		lookAtPitches(t, &counted, b, wave(b, temp).Hi/200000000-both(b).Lo, temp)
	}
	counted.check(t, 100)
}

// P8.2: the least frequencies, which great pipes with the least mouths have.
func TestLeastPitches(t *testing.T) {
	source := rand.New(rand.NewPCG(8, 5))
	var counted tally
	for range 500 {
		b, temp := api.BdBody{Kind: api.BdStopped, Mouth: 1, Cut: 1}, anyTemp(source)
		// Up to 20 of 380000 micrometres less, the correction alone is not quite the wave.
		b.Bottom = int64(math.Sqrt(float64(wave(b, temp).Lo)/0.575)) - source.Int64N(20)
		b.Top = b.Bottom
		lookAtPitches(t, &counted, b, wave(b, temp).Lo-both(b).Hi, temp)
	}
	counted.check(t, 100)
}

// slideOf returns what Slide must return for valid arguments.
func slideOf(b api.BdBody, f api.Iv, low, high int64) (api.Iv, api.Errno) {
	cold, e := lengthOf(b, f, low)
	if e != api.OK {
		return api.Iv{}, e
	}
	warm, e := lengthOf(b, f, high)
	if e != api.OK {
		return api.Iv{}, e
	}
	return iv(min(cold.Lo, warm.Lo), max(cold.Hi, warm.Hi)), api.OK
}

// P8.3: a slide reaches both lengths, whichever temperature is greater.
func TestSlides(t *testing.T) {
	source := rand.New(rand.NewPCG(8, 6))
	var counted tally
	for range 3000 {
		b, f, low, high := anyBody(source), anyFrequency(source), anyTemp(source), anyTemp(source)
		want, e := slideOf(b, f, low, high)
		if got, gotE := Slide(b, f, low, high); got != want || gotE != e {
			t.Errorf("Slide(%v, %v, %d, %d) = %v, %d, want %v, %d", b, f, low, high, got, gotE, want, e)
		}
		counted.add(e)
	}
	counted.check(t, 100)
}

// P8.3: known slides; one length that is not possible is enough for an error.
func TestKnownSlides(t *testing.T) {
	for _, c := range []struct {
		f         api.Iv
		low, high int64
		want      api.Iv
		e         api.Errno
	}{
		{iv(440000, 440000), 0, 0, iv(289269, 289271), api.OK},
		{iv(440000, 440000), 0, 20000, iv(289269, 302810), api.OK},
		{iv(440000, 440000), 20000, 0, iv(289269, 302810), api.OK},
		{iv(1899460, 1899460), 0, 20000, api.Iv{}, api.ErrRange},
		{iv(1899460, 1899460), 20000, 0, api.Iv{}, api.ErrRange},
		{iv(13800, 13800), 0, 20000, api.Iv{}, api.ErrRange},
		{iv(13800, 13800), 20000, 0, api.Iv{}, api.ErrRange},
	} {
		if v, e := Slide(open(), c.f, c.low, c.high); v != c.want || e != c.e {
			t.Errorf("Slide(%v, %d, %d) = %v, %d, want %v, %d", c.f, c.low, c.high, v, e, c.want, c.e)
		}
	}
}
