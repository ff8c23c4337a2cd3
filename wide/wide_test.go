package wide

import (
	"encoding/binary"
	"math"
	"math/big"
	"math/rand/v2"
	"slices"
	"testing"

	"quintadena/api"
)

// bigOf returns what a means as the weights of its limbs say.
func bigOf(a api.Nat) *big.Int {
	var bytes []byte
	for _, limb := range slices.Backward(a) {
		bytes = binary.BigEndian.AppendUint32(bytes, limb)
	}
	return new(big.Int).SetBytes(bytes)
}

// natOf returns the limbs of n, which is at least 0.
func natOf(n *big.Int) api.Nat {
	bytes := n.FillBytes(make([]byte, (n.BitLen()+31)/32*4))
	var a api.Nat
	for len(bytes) > 0 {
		rest := len(bytes) - 4
		a = append(a, binary.BigEndian.Uint32(bytes[rest:]))
		bytes = bytes[:rest]
	}
	return a
}

// ones returns 2^n - 1.
func ones(n int) api.Nat {
	a := slices.Repeat(api.Nat{math.MaxUint32}, n/32)
	if n%32 > 0 {
		a = append(a, 1<<(n%32)-1)
	}
	return a
}

// bit returns 2^n.
func bit(n int) api.Nat {
	a := make(api.Nat, n/32+1)
	a[n/32] = 1 << (n % 32)
	return a
}

// random returns a number with n limbs; many of them are at the ends of their range, where carries and guesses go wrong first.
func random(source *rand.Rand, n int) api.Nat {
	a := make(api.Nat, n)
	for i := range a {
		switch source.IntN(4) {
		case 0:
			a[i] = 0
		case 1:
			a[i] = math.MaxUint32
		case 2:
			a[i] = 1 << source.IntN(32)
		default:
			a[i] = source.Uint32()
		}
	}
	if n > 0 && a[n-1] == 0 {
		a[n-1] = 1 + source.Uint32N(3)
	}
	return a
}

// numbers returns numbers of every kind and of up to the given number of limbs.
func numbers(limbs int) []api.Nat {
	l := []api.Nat{nil, {1}, {2}, {3}, {255}, {256}, {1 << 31}, {math.MaxUint32}, {0, 1}, {1, 1}, {5, 1}, {0, 1 << 31}, {math.MaxUint32, math.MaxUint32}, {0, 0, 1}, {1, 0, 1}, {0, 0, 1 << 31}, {math.MaxUint32, 1 << 31}}
	source := rand.New(rand.NewPCG(2, uint64(limbs)))
	for n := 1; n <= limbs; n += 1 + n/3 {
		l = append(l, ones(32*n), bit(32*n-1), random(source, n), random(source, n), random(source, n))
	}
	return append(l, ones(32*limbs), random(source, limbs))
}

// same compares a result with what it must be, and with its form: 0 has no limbs.
func same(t *testing.T, what string, got api.Nat, e api.Errno, want *big.Int) {
	t.Helper()
	wantE := api.OK
	if want.BitLen() > 32*512 {
		want, wantE = new(big.Int), api.ErrLong
	}
	if !slices.Equal(got, natOf(want)) || e != wantE {
		t.Errorf("%s: %d limbs, %d, want %d bits, %d", what, len(got), e, want.BitLen(), wantE)
	}
}

// P2.1
func TestValid(t *testing.T) {
	for _, a := range numbers(512) {
		if !Valid(a) {
			t.Errorf("Valid of %d limbs is false", len(a))
		}
	}
	if !Valid(api.Nat{}) {
		t.Error("Valid of an empty list is false")
	}
	for _, a := range []api.Nat{{0}, {5, 0}, {0, 0}, make(api.Nat, 512), make(api.Nat, 513), ones(32 * 513), bit(32 * 512)} {
		if Valid(a) {
			t.Errorf("Valid of %d limbs is true", len(a))
		}
	}
}

// P2.1
func TestOf(t *testing.T) {
	for n, want := range map[uint64]api.Nat{0: nil, 1: {1}, 1<<32 - 1: {math.MaxUint32}, 1 << 32: {0, 1}, 1<<32 + 5: {5, 1}, math.MaxUint64: {math.MaxUint32, math.MaxUint32}} {
		if a := Of(n); !slices.Equal(a, want) {
			t.Errorf("Of(%d): %v", n, a)
		}
		if got, e := Small(want); got != n || e != api.OK {
			t.Errorf("Small(%v): %d, %d", want, got, e)
		}
	}
}

// P2.1
func TestSmall(t *testing.T) {
	for _, a := range numbers(512) {
		want, e := bigOf(a), api.OK
		if want.BitLen() > 64 {
			want, e = new(big.Int), api.ErrRange
		}
		if n, got := Small(a); n != want.Uint64() || got != e {
			t.Errorf("Small of %d limbs: %d, %d", len(a), n, got)
		}
	}
}

// P2.3
func TestCmp(t *testing.T) {
	for _, a := range numbers(512) {
		for _, b := range numbers(512) {
			if c, e := Cmp(a, b); c != bigOf(a).Cmp(bigOf(b)) || e != api.OK {
				t.Errorf("Cmp of %d and %d limbs: %d, %d", len(a), len(b), c, e)
			}
		}
	}
}

// P2.3
func TestBits(t *testing.T) {
	for _, x := range []struct {
		a    api.Nat
		want int
	}{{nil, 0}, {api.Nat{1}, 1}, {api.Nat{255}, 8}, {api.Nat{256}, 9}, {api.Nat{math.MaxUint32}, 32}, {api.Nat{0, 1}, 33}, {ones(16384), 16384}, {bit(16383), 16384}, {bit(16352), 16353}} {
		if n, e := Bits(x.a); n != x.want || e != api.OK {
			t.Errorf("Bits of %d limbs: %d, %d", len(x.a), n, e)
		}
	}
}
