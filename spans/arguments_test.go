package spans

import (
	"math"
	"math/rand/v2"
	"strconv"
	"testing"

	"quintadena/api"
)

// binaries returns all functions of two intervals; what Order returns is given as both bounds.
func binaries() map[string]binary {
	return map[string]binary{"Add": Add, "Sub": Sub, "Mul": Mul, "Div": Div, "Hull": Hull, "Meet": Meet, "Order": func(a, b api.Iv) (api.Iv, api.Errno) {
		n, e := Order(a, b)
		return iv(int64(n), int64(n)), e
	}}
}

// unaries returns all functions of one interval, also with other arguments that are not valid.
func unaries() map[string]unary {
	l := map[string]unary{"Pi": Pi, "Disc": Disc, "Check": func(a api.Iv) (api.Iv, api.Errno) { return api.Iv{}, Check(a) }}
	for _, k := range []int{math.MinInt, -1, 0, 1, 2, 61, 62, 63, math.MaxInt} {
		name := strconv.Itoa(k)
		l["Pow "+name] = func(a api.Iv) (api.Iv, api.Errno) { return Pow(a, k) }
		l["Root "+name] = func(a api.Iv) (api.Iv, api.Errno) { return Root(a, k) }
	}
	words := []int64{math.MinInt64, -most - 1, -most, -1, 0, 1, 2, most, most + 1, math.MaxInt64}
	for _, num := range words {
		for _, den := range words {
			name := strconv.FormatInt(num, 10) + " / " + strconv.FormatInt(den, 10)
			l["Scale "+name] = func(a api.Iv) (api.Iv, api.Errno) { return Scale(a, num, den) }
		}
	}
	return l
}

// outside returns intervals with a bound that is not allowed; in some of them the bounds are in the wrong order besides.
func outside() []api.Iv {
	return []api.Iv{iv(0, most+1), iv(-most-1, 0), iv(most+1, most+1), iv(-most-1, -most-1), iv(math.MinInt64, math.MaxInt64), iv(math.MaxInt64, math.MinInt64), iv(most+1, most), iv(0, -most-1), iv(math.MinInt64, math.MinInt64)}
}

// crossed returns intervals whose bounds are allowed, but in the wrong order.
func crossed() []api.Iv {
	return []api.Iv{iv(1, 0), iv(0, -1), iv(most, -most), iv(-5, -6), iv(most, most-1), iv(1-most, -most)}
}

// P3.1
func TestCheck(t *testing.T) {
	for _, a := range intervals(100) {
		if e := Check(a); e != api.OK {
			t.Errorf("Check(%v) = %d", a, e)
		}
	}
	for _, a := range outside() {
		if e := Check(a); e != api.ErrRange {
			t.Errorf("Check(%v) = %d", a, e)
		}
	}
	for _, a := range crossed() {
		if e := Check(a); e != api.ErrArg {
			t.Errorf("Check(%v) = %d", a, e)
		}
	}
}

// The bad arguments, and R2: ErrRange comes before ErrArg, whichever interval it is of, and both come before what else is wrong.
func TestBadIntervals(t *testing.T) {
	for name, call := range unaries() {
		for _, a := range outside() {
			got, e := call(a)
			wantError(t, name, got, e, api.ErrRange)
		}
		for _, a := range crossed() {
			got, e := call(a)
			wantError(t, name, got, e, api.ErrArg)
		}
	}
	others := append(crossed(), iv(0, 0), iv(-1, 1), iv(3, 4), iv(most, most))
	for name, call := range binaries() {
		for _, a := range outside() {
			for _, b := range append(others, outside()...) {
				got, e := call(a, b)
				wantError(t, name, got, e, api.ErrRange)
				got, e = call(b, a)
				wantError(t, name, got, e, api.ErrRange)
			}
		}
		for _, a := range crossed() {
			for _, b := range others {
				got, e := call(a, b)
				wantError(t, name, got, e, api.ErrArg)
				got, e = call(b, a)
				wantError(t, name, got, e, api.ErrArg)
			}
		}
	}
}

// R1 and R2: each call returns a valid interval, or an error and zeros.
func TestAnyArguments(t *testing.T) {
	source := rand.New(rand.NewPCG(1, 1))
	words := []int64{math.MinInt64, math.MinInt64 + 1, math.MaxInt64 - 1, math.MaxInt64, most + 1, -most - 1}
	words = append(words, edges()...)
	word := func() int64 {
		if source.IntN(2) == 0 {
			return words[source.IntN(len(words))]
		}
		return int64(source.Uint64() >> source.IntN(64))
	}
	look := func(name string, got api.Iv, e api.Errno) {
		if e != api.OK && got != (api.Iv{}) || Check(got) != api.OK {
			t.Errorf("%s: %v, %d", name, got, e)
		}
	}
	for range 2000 {
		a, b := iv(word(), word()), iv(word(), word())
		for name, call := range binaries() {
			got, e := call(a, b)
			look(name, got, e)
		}
		for name, call := range unaries() {
			got, e := call(b)
			look(name, got, e)
		}
		got, e := Scale(a, word(), word())
		look("Scale", got, e)
		got, e = Pow(a, int(word()))
		look("Pow", got, e)
		got, e = Root(a, int(word()))
		look("Root", got, e)
	}
}
