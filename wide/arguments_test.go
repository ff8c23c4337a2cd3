package wide

import (
	"slices"
	"testing"

	"quintadena/api"
)

// answer is the results of a call: numbers, those of fractions with their numerators and denominators, and whether all others are 0.
type answer struct {
	nats []api.Nat
	zero bool
	e    api.Errno
}

func ofNat(a api.Nat, e api.Errno) answer {
	return answer{[]api.Nat{a}, true, e}
}

func ofQuo(q api.Quo, e api.Errno) answer {
	return answer{[]api.Nat{q.Num, q.Den}, !q.Neg, e}
}

func ofInt(n int, e api.Errno) answer {
	return answer{nil, n == 0, e}
}

// natCalls returns calls of all functions that take numbers but not fractions, with as many of them as count says. The last ones have other arguments that are not valid.
func natCalls(count int) map[string]func(l []api.Nat) answer {
	if count == 1 {
		return map[string]func(l []api.Nat) answer{
			"Small": func(l []api.Nat) answer { n, e := Small(l[0]); return answer{nil, n == 0, e} },
			"Text":  func(l []api.Nat) answer { s, e := Text(l[0]); return answer{nil, s == "", e} },
			"Bits":  func(l []api.Nat) answer { return ofInt(Bits(l[0])) },
			"Shift": func(l []api.Nat) answer { return ofNat(Shift(l[0], 0)) },
			"Pow":   func(l []api.Nat) answer { return ofNat(Pow(l[0], 1)) },
			"Root":  func(l []api.Nat) answer { return ofNat(Root(l[0], 1)) },

			"Shift by 20001": func(l []api.Nat) answer { return ofNat(Shift(l[0], 20001)) },
			"Pow of -1":      func(l []api.Nat) answer { return ofNat(Pow(l[0], -1)) },
			"Root of 65":     func(l []api.Nat) answer { return ofNat(Root(l[0], 65)) },
		}
	}
	return map[string]func(l []api.Nat) answer{
		"Cmp": func(l []api.Nat) answer { return ofInt(Cmp(l[0], l[1])) },
		"Add": func(l []api.Nat) answer { return ofNat(Add(l[0], l[1])) },
		"Sub": func(l []api.Nat) answer { return ofNat(Sub(l[0], l[1])) },
		"Mul": func(l []api.Nat) answer { return ofNat(Mul(l[0], l[1])) },
		"Gcd": func(l []api.Nat) answer { return ofNat(Gcd(l[0], l[1])) },
		"DivMod": func(l []api.Nat) answer {
			q, r, e := DivMod(l[0], l[1])
			return answer{[]api.Nat{q, r}, true, e}
		},
		"Ratio": func(l []api.Nat) answer { return ofQuo(Ratio(true, l[0], l[1])) },
	}
}

// quoCalls is natCalls of the functions that take fractions.
func quoCalls(count int) map[string]func(l []api.Quo) answer {
	if count == 1 {
		return map[string]func(l []api.Quo) answer{
			"QFloor": func(l []api.Quo) answer {
				neg, n, e := QFloor(l[0])
				return answer{[]api.Nat{n}, !neg, e}
			},
			"QPow":         func(l []api.Quo) answer { return ofQuo(QPow(l[0], 1)) },
			"QPow of -1":   func(l []api.Quo) answer { return ofQuo(QPow(l[0], -1)) },
			"QPow of 2001": func(l []api.Quo) answer { return ofQuo(QPow(l[0], 2001)) },
		}
	}
	return map[string]func(l []api.Quo) answer{
		"QAdd": func(l []api.Quo) answer { return ofQuo(QAdd(l[0], l[1])) },
		"QSub": func(l []api.Quo) answer { return ofQuo(QSub(l[0], l[1])) },
		"QMul": func(l []api.Quo) answer { return ofQuo(QMul(l[0], l[1])) },
		"QDiv": func(l []api.Quo) answer { return ofQuo(QDiv(l[0], l[1])) },
		"QCmp": func(l []api.Quo) answer { return ofInt(QCmp(l[0], l[1])) },
	}
}

// wantError reports where an answer is not the error e with zero values.
func wantError(t *testing.T, name string, a answer, e api.Errno) {
	t.Helper()
	if a.e != e || !a.zero || slices.ContainsFunc(a.nats, func(n api.Nat) bool { return len(n) > 0 }) {
		t.Errorf("%s: %v, %d, want %d", name, a.zero, a.e, e)
	}
}

// improper returns fractions without too many limbs that are not proper.
func improper() []api.Quo {
	one := api.Nat{1}
	return []api.Quo{{}, {Num: one}, {Den: api.Nat{2}}, {Neg: true, Den: one}, {Num: api.Nat{2}, Den: api.Nat{4}}, {Num: api.Nat{3}, Den: api.Nat{3}}, {Num: api.Nat{1, 0}, Den: one}, {Num: one, Den: api.Nat{1, 0}}, {Num: api.Nat{0}, Den: one}, {Num: one, Den: api.Nat{0}}, {Num: make(api.Nat, 512), Den: one}, {Num: ones(16384), Den: ones(8192)}, {Den: ones(16384)}}
}

// tooLong returns fractions with too many limbs.
func tooLong() []api.Quo {
	one := api.Nat{1}
	return []api.Quo{{Num: ones(16385), Den: one}, {Num: one, Den: bit(16384)}, {Num: make(api.Nat, 513), Den: api.Nat{1, 0}}, {Neg: true, Den: make(api.Nat, 600)}, {Num: make(api.Nat, 513)}}
}

// P1 and the bad arguments: ErrLong comes before ErrArg, whichever argument it is of, and both before all other errors.
func TestBadNumbers(t *testing.T) {
	long := []api.Nat{make(api.Nat, 513), ones(16385), bit(16384), make(api.Nat, 100000)}
	wrong := []api.Nat{{0}, {5, 0}, {0, 0}, make(api.Nat, 512)}
	for name, call := range natCalls(1) {
		for _, a := range long {
			wantError(t, name, call([]api.Nat{a}), api.ErrLong)
		}
		for _, a := range wrong {
			wantError(t, name, call([]api.Nat{a}), api.ErrArg)
		}
	}
	for name, call := range natCalls(2) {
		for _, a := range long {
			for _, b := range slices.Concat(long, wrong, numbers(4)) {
				wantError(t, name, call([]api.Nat{a, b}), api.ErrLong)
				wantError(t, name, call([]api.Nat{b, a}), api.ErrLong)
			}
		}
		for _, a := range wrong {
			for _, b := range slices.Concat(wrong, numbers(4)) {
				wantError(t, name, call([]api.Nat{a, b}), api.ErrArg)
				wantError(t, name, call([]api.Nat{b, a}), api.ErrArg)
			}
		}
	}
}

// P1 and the bad arguments, for fractions.
func TestBadFractions(t *testing.T) {
	for name, call := range quoCalls(1) {
		for _, a := range tooLong() {
			wantError(t, name, call([]api.Quo{a}), api.ErrLong)
		}
		for _, a := range improper() {
			wantError(t, name, call([]api.Quo{a}), api.ErrArg)
		}
	}
	for name, call := range quoCalls(2) {
		for _, a := range tooLong() {
			for _, b := range slices.Concat(tooLong(), improper(), fractions(4)) {
				wantError(t, name, call([]api.Quo{a, b}), api.ErrLong)
				wantError(t, name, call([]api.Quo{b, a}), api.ErrLong)
			}
		}
		for _, a := range improper() {
			for _, b := range slices.Concat(improper(), fractions(4)) {
				wantError(t, name, call([]api.Quo{a, b}), api.ErrArg)
				wantError(t, name, call([]api.Quo{b, a}), api.ErrArg)
			}
		}
	}
}

// spoil writes over all the memory of a, the part behind its end too.
func spoil(a api.Nat) {
	a = a[:cap(a)]
	for i := range a {
		a[i] ^= 0xa5a5a5a5
	}
}

// roomy returns copies of l with room behind their ends, as a caller may have.
func roomy(l []api.Nat) []api.Nat {
	var copies []api.Nat
	for _, a := range l {
		c := make(api.Nat, len(a), len(a)+3)
		copy(c, a)
		copies = append(copies, c)
	}
	return copies
}

// whole returns copies of all the memory of l.
func whole(l []api.Nat) []api.Nat {
	var copies []api.Nat
	for _, a := range l {
		copies = append(copies, slices.Clone(a[:cap(a)]))
	}
	return copies
}

// checkMemory calls do with arguments and looks whether they remain as they are, while results are written over; and whether results remain as they are, while other results are.
func checkMemory(t *testing.T, name string, arguments []api.Nat, do func(l []api.Nat) []api.Nat) {
	t.Helper()
	l := roomy(arguments)
	before := whole(l)
	results := do(l)
	for i := range results {
		kept := whole(results[i+1:])
		spoil(results[i])
		if !slices.EqualFunc(kept, whole(results[i+1:]), slices.Equal[api.Nat]) {
			t.Errorf("%s: its results share memory", name)
		}
	}
	if !slices.EqualFunc(before, whole(l), slices.Equal[api.Nat]) {
		t.Errorf("%s: an argument was changed, or shares memory with a result", name)
	}
}

// P1: R3 of numbers.
func TestMemoryOfNumbers(t *testing.T) {
	for name, call := range natCalls(1) {
		for _, a := range numbers(40) {
			checkMemory(t, name, []api.Nat{a}, func(l []api.Nat) []api.Nat { return call(l).nats })
		}
	}
	for name, call := range natCalls(2) {
		for _, a := range numbers(40) {
			for _, b := range numbers(40) {
				checkMemory(t, name, []api.Nat{a, b}, func(l []api.Nat) []api.Nat { return call(l).nats })
			}
		}
	}
	first, second := Of(7), Of(7)
	spoil(first)
	if !slices.Equal(second, api.Nat{7}) {
		t.Error("two results of Of share memory")
	}
}

// P1: R3 of fractions.
func TestMemoryOfFractions(t *testing.T) {
	for name, call := range quoCalls(1) {
		for _, a := range fractions(9) {
			checkMemory(t, name, []api.Nat{a.Num, a.Den}, func(l []api.Nat) []api.Nat {
				return call([]api.Quo{{Neg: a.Neg, Num: l[0], Den: l[1]}}).nats
			})
		}
	}
	for name, call := range quoCalls(2) {
		for _, a := range fractions(9) {
			for _, b := range fractions(9) {
				checkMemory(t, name, []api.Nat{a.Num, a.Den, b.Num, b.Den}, func(l []api.Nat) []api.Nat {
					return call([]api.Quo{{Neg: a.Neg, Num: l[0], Den: l[1]}, {Neg: b.Neg, Num: l[2], Den: l[3]}}).nats
				})
			}
		}
	}
}
