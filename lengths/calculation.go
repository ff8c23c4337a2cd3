package lengths

import (
	"cmp"

	"quintadena/api"
	"quintadena/spans"
)

// interval is embedded in what is calculated, to be asked where it lies.
type interval struct{ api.Iv }

// calculation is an interval that is calculated, or the first error on the way to it.
type calculation struct {
	interval
	e api.Errno
}

// lies reports whether the ends are from least to most, and in order.
func (v interval) lies(least, most int64) bool {
	return least <= v.Lo && v.Lo <= v.Hi && v.Hi <= most
}

func calculated(v api.Iv, e api.Errno) calculation {
	return calculation{interval{v}, e}
}

func failed(e api.Errno) calculation {
	return calculation{e: e}
}

func number(n int64) calculation {
	return calculated(api.Iv{Lo: n, Hi: n}, api.OK)
}

// given returns an argument, which must lie from least to most.
func given(v api.Iv, least, most int64) calculation {
	return calculated(v, api.OK).limited(least, most, api.ErrArg)
}

// limited returns c if it lies from least to most, and otherwise the error e, unless there is one already.
func (c calculation) limited(least, most int64, e api.Errno) calculation {
	if c.e == api.OK && !c.lies(least, most) {
		return failed(e)
	}
	return c
}

// with returns what is calculated from both; of two errors, that of c counts.
func (c calculation) with(do func(a, b api.Iv) (api.Iv, api.Errno), d calculation) calculation {
	if e := cmp.Or(c.e, d.e); e != api.OK {
		return failed(e)
	}
	return calculated(do(c.Iv, d.Iv))
}

func (c calculation) plus(d calculation) calculation  { return c.with(spans.Add, d) }
func (c calculation) minus(d calculation) calculation { return c.with(spans.Sub, d) }
func (c calculation) times(d calculation) calculation { return c.with(spans.Mul, d) }
func (c calculation) over(d calculation) calculation  { return c.with(spans.Div, d) }

// through returns what is calculated from c alone.
func (c calculation) through(do func(a api.Iv) (api.Iv, api.Errno)) calculation {
	if c.e != api.OK {
		return c
	}
	return calculated(do(c.Iv))
}

func (c calculation) scaled(num, den int64) calculation {
	return c.through(func(a api.Iv) (api.Iv, api.Errno) { return spans.Scale(a, num, den) })
}

func (c calculation) squareRoot() calculation {
	return c.through(func(a api.Iv) (api.Iv, api.Errno) { return spans.Root(a, 2) })
}

func (c calculation) result() (api.Iv, api.Errno) {
	return c.Iv, c.e
}
