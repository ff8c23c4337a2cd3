package lengths

import (
	"math/big"
	"math/rand/v2"
	"testing"

	"quintadena/api"
)

// The reference follows the definitions of the chapter with whole numbers from 0 on, which it rounds down and up itself, and with numbers of math/big of so many bits that they count as exact.

const precision = 300

// quotient returns the span of the members of a, divided by those of b, if all of them are above 0.
func quotient(a, b api.Iv) api.Iv {
	return api.Iv{Lo: a.Lo / b.Hi, Hi: (a.Hi + b.Lo - 1) / b.Lo}
}

// part returns the span of n num / den.
func part(n, num, den int64) api.Iv {
	return quotient(iv(n*num, n*num), iv(den, den))
}

// root returns the span of the square root of up / down.
func root(up, down *big.Int) api.Iv {
	n, rest := new(big.Int).DivMod(up, down, new(big.Int))
	lo := new(big.Int).Sqrt(n)
	if rest.Sign() == 0 && new(big.Int).Mul(lo, lo).Cmp(n) == 0 {
		return iv(lo.Int64(), lo.Int64())
	}
	return iv(lo.Int64(), lo.Int64()+1)
}

// speed returns the span of the speed of sound.
func speed(temp int64) api.Iv {
	n := new(big.Int).Mul(big.NewInt(331300000), big.NewInt(331300000))
	return root(n.Mul(n, big.NewInt(273150+temp)), big.NewInt(273150))
}

// factor returns the n of a kind, as the definition of the sounding length has it.
func factor(kind int) int64 {
	if kind == api.BdStopped {
		return 250
	}
	return 500
}

// corrected returns both corrections.
func corrected(b api.BdBody) (mouth, end api.Iv) {
	mouth = quotient(part(b.Bottom*b.Bottom, 575, 1000), root(big.NewInt(b.Mouth*b.Cut), big.NewInt(1)))
	if b.Kind == api.BdStopped {
		return mouth, api.Iv{}
	}
	return mouth, part(b.Top, 30665, 100000)
}

// both returns the correction.
func both(b api.BdBody) api.Iv {
	mouth, end := corrected(b)
	return iv(mouth.Lo+end.Lo, mouth.Hi+end.Hi)
}

// wave returns the speed of sound, times the factor of a kind.
func wave(b api.BdBody, temp int64) api.Iv {
	c, n := speed(temp), factor(b.Kind)
	return iv(c.Lo*n, c.Hi*n)
}

// inRange returns v, or ErrRange if an end of it is not from 1 to most.
func inRange(v api.Iv, most int64) (api.Iv, api.Errno) {
	if v.Lo < 1 || v.Hi > most {
		return api.Iv{}, api.ErrRange
	}
	return v, api.OK
}

// lengthOf returns what Length must return for valid arguments.
func lengthOf(b api.BdBody, f api.Iv, temp int64) (api.Iv, api.Errno) {
	sounding, x := quotient(wave(b, temp), f), both(b)
	return inRange(iv(sounding.Lo-x.Hi, sounding.Hi-x.Lo), 12000000)
}

// pitchOf returns what Pitch must return for valid arguments.
func pitchOf(b api.BdBody, long api.Iv, temp int64) (api.Iv, api.Errno) {
	x := both(b)
	return inRange(quotient(wave(b, temp), iv(long.Lo+x.Lo, long.Hi+x.Hi)), 200000000)
}

// exactly returns a number for calculations that count as exact.
func exactly(n int64) *big.Float {
	return new(big.Float).SetPrec(precision).SetInt64(n)
}

// ratio returns num / den.
func ratio(num, den *big.Float) *big.Float {
	return new(big.Float).SetPrec(precision).Quo(num, den)
}

// exactCorrections returns the corrections before anything is rounded.
func exactCorrections(b api.BdBody) (mouth, end *big.Float) {
	opening := exactly(b.Mouth * b.Cut)
	mouth = ratio(exactly(b.Bottom*b.Bottom*575), opening.Mul(exactly(1000), opening.Sqrt(opening)))
	if b.Kind == api.BdStopped {
		return mouth, exactly(0)
	}
	return mouth, ratio(exactly(b.Top*30665), exactly(100000))
}

// exactWave returns the speed of sound, times the factor of a kind, before anything is rounded.
func exactWave(b api.BdBody, temp int64) *big.Float {
	warmer := ratio(exactly(273150+temp), exactly(273150))
	return exactly(0).Mul(exactly(331300000*factor(b.Kind)), warmer.Sqrt(warmer))
}

// exactLength returns how long a pipe is for a frequency, before anything is rounded.
func exactLength(b api.BdBody, f *big.Float, temp int64) *big.Float {
	mouth, end := exactCorrections(b)
	x := ratio(exactWave(b, temp), f)
	return x.Sub(x.Sub(x, mouth), end)
}

// exactPitch returns the frequency of a pipe of a length, before anything is rounded.
func exactPitch(b api.BdBody, long *big.Float, temp int64) *big.Float {
	mouth, end := exactCorrections(b)
	return ratio(exactWave(b, temp), mouth.Add(mouth, end.Add(end, long)))
}

// contains reports whether x is a member of v. Numbers of the reference are off by less than slack.
func contains(v api.Iv, x *big.Float) bool {
	slack := ratio(exactly(1), exactly(1<<62))
	slack.Mul(slack, slack)
	low, high := exactly(v.Lo), exactly(v.Hi)
	return low.Sub(low, slack).Cmp(x) <= 0 && x.Cmp(high.Add(high, slack)) <= 0
}

func iv(lo, hi int64) api.Iv {
	return api.Iv{Lo: lo, Hi: hi}
}

// sure returns a result that can't be an error.
func sure[T any](x T, e api.Errno) T {
	if e != api.OK {
		panic(e)
	}
	return x
}

// between returns a number from least to most; often a limit, and often one that is near least.
func between(source *rand.Rand, least, most int64) int64 {
	switch source.IntN(8) {
	case 0:
		return least
	case 1:
		return most
	case 2, 3:
		return least + source.Int64N(most-least+1)>>source.IntN(16)
	}
	return least + source.Int64N(most-least+1)
}

// open is the pipe of the chapter's examples.
func open() api.BdBody {
	return api.BdBody{Kind: api.BdOpen, Bottom: 50000, Top: 50000, Mouth: 40000, Cut: 10000}
}

// stopped is that pipe, if it is stopped.
func stopped() api.BdBody {
	b := open()
	b.Kind = api.BdStopped
	return b
}

// cone is that pipe, if it is narrower at the top.
func cone(top int64) api.BdBody {
	b := open()
	b.Kind, b.Top = api.BdCone, top
	return b
}

// anyBody returns a valid pipe; half of them have usual mouths.
func anyBody(source *rand.Rand) api.BdBody {
	b := api.BdBody{Kind: 1 + source.IntN(3), Bottom: between(source, 1000, 500000)}
	b.Top = b.Bottom
	if b.Kind == api.BdCone {
		b.Bottom = max(b.Bottom, 1001)
		b.Top = between(source, 1000, b.Bottom-1)
	}
	b.Mouth, b.Cut = between(source, 1, 4*b.Bottom), between(source, 1, 4*b.Bottom)
	if source.IntN(2) == 0 {
		b.Mouth, b.Cut = b.Bottom*3/4, b.Bottom/5
	}
	return b
}

// anyIv returns an interval from least to most; a third of them are numbers, a third are narrow.
func anyIv(source *rand.Rand, least, most int64) api.Iv {
	x, y := between(source, least, most), between(source, least, most)
	switch source.IntN(3) {
	case 0:
		return iv(x, x)
	case 1:
		return iv(x, min(most, x+source.Int64N(1+x/100)))
	}
	return iv(min(x, y), max(x, y))
}

func anyFrequency(source *rand.Rand) api.Iv { return anyIv(source, 1000, 20000000) }

func anyLength(source *rand.Rand) api.Iv { return anyIv(source, 1, 12000000) }

func anyTemp(source *rand.Rand) int64 { return between(source, -20000, 50000) }

// member returns a member of v, mostly no whole number.
func member(source *rand.Rand, v api.Iv) *big.Float {
	x := ratio(exactly(source.Int64N(1001)), exactly(1000))
	x.Mul(x, exactly(v.Hi-v.Lo))
	return x.Add(x, exactly(v.Lo))
}

// The reference has what the chapter's examples have.
func TestReference(t *testing.T) {
	if mouth, end := corrected(open()); mouth != iv(71875, 71875) || end != iv(15332, 15333) {
		t.Errorf("the corrections are %v and %v", mouth, end)
	}
	if v, e := lengthOf(open(), iv(440000, 440000), 0); v != iv(289269, 289271) || e != api.OK {
		t.Errorf("the length is %v, %d", v, e)
	}
	if v := sure(pitchOf(open(), iv(289270, 289270), 0)); v.Lo > 440000 || v.Hi < 440000 {
		t.Errorf("the frequency is %v", v)
	}
	if _, e := lengthOf(open(), iv(20000000, 20000000), 0); e != api.ErrRange {
		t.Errorf("the length for 20000000 is %d", e)
	}
	if v := speed(0); v != iv(331300000, 331300000) {
		t.Errorf("the speed is %v", v)
	}
	if x := exactLength(open(), exactly(440000), 0); !contains(iv(289269, 289271), x) || contains(iv(289269, 289269), x) {
		t.Errorf("the exact length is %v", x)
	}
	if x := exactPitch(open(), exactLength(open(), exactly(440000), 5000), 5000); !contains(iv(440000, 440000), x) {
		t.Errorf("the exact frequency is %v", x)
	}
}
