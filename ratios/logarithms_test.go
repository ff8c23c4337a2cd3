package ratios

import (
	"math"
	"math/big"
	"math/rand/v2"
	"testing"

	"quintadena/api"
)

// numberOf returns the number of which l has the words, the lowest one first.
func numberOf(l []uint64) *big.Int {
	n := new(big.Int)
	for i := len(l) - 1; i >= 0; i-- {
		n.Lsh(n, 64).Or(n, new(big.Int).SetUint64(l[i]))
	}
	return n
}

// wordsOf returns the count words of n.
func wordsOf(n *big.Int, count int) []uint64 {
	l := make([]uint64, count)
	for i := range l {
		l[i] = new(big.Int).Rsh(n, uint(64*i)).Uint64()
	}
	return l
}

// mantissasOf returns mantissas of so many words: the least and the greatest, those next to the square root of 2, and others.
func mantissasOf(source *rand.Rand, words int) [][]uint64 {
	root := new(big.Int).Lsh(number(1), uint(128*words-1))
	root.Sqrt(root)
	least, greatest := make([]uint64, words), make([]uint64, words)
	for i := range greatest {
		greatest[i] = math.MaxUint64
	}
	l := [][]uint64{wordsOf(root, words), wordsOf(new(big.Int).Add(root, number(1)), words), least, greatest}
	for range 50 {
		x := make([]uint64, words)
		for i := range x {
			// Words of which all bits are 0 or 1 make the carries that are rare otherwise.
			x[i] = []uint64{0, math.MaxUint64, source.Uint64(), source.Uint64()}[source.IntN(4)]
		}
		l = append(l, x)
	}
	for _, x := range l {
		x[words-1] |= 1 << 63
	}
	return l
}

// P4.7: squares of mantissas with several words, rounded down, and their places.
func TestSquare(t *testing.T) {
	source := rand.New(rand.NewPCG(4, 5))
	for words := 1; words <= 9; words++ {
		room := make([]uint64, 2*words)
		for _, x := range mantissasOf(source, words) {
			want := numberOf(x)
			want.Mul(want, want)
			wantPlace := want.BitLen() == 128*words
			want.Rsh(want, uint(want.BitLen()-64*words))
			place := square(x, room)
			if numberOf(x).Cmp(want) != 0 || place != wantPlace {
				t.Errorf("%d words: square %x, %v, want %x, %v", words, x, place, want, wantPlace)
			}
		}
	}
}

// P4.7: what some words show is right, and no longer shown otherwise by more of them; a product that is 1 shows nothing.
func TestEstimate(t *testing.T) {
	source := rand.New(rand.NewPCG(4, 6))
	all := [][]api.Term{entwined(source), balanced(source), nil, product(1, 7, 2, 0)}
	for n := int64(1); n <= 15; n++ {
		all = append(all, differences(n), inverse(differences(n)))
	}
	for _, l := range near() {
		all = append(all, l, inverse(l))
	}
	for range 100 {
		all = append(all, termsOf(source, 16))
	}
	for _, l := range all {
		want, shown := signOf(times(l, 1)...), 0
		for words := 1; words <= 16; words *= 2 {
			s := estimate(l, words)
			if s != want && (s != 0 || shown != 0) {
				t.Errorf("estimate(%v, %d) = %d, want %d", l, words, s, want)
			}
			shown = s
		}
		if shown != want {
			t.Errorf("16 words do not show the sign of %v", l)
		}
	}
}

// P4.7: what is too near to 1 for so many words is not shown by them.
func TestEstimateOfTooFewWords(t *testing.T) {
	if s := estimate(differences(15), 8); s != 0 {
		t.Errorf("8 words show the sign %d", s)
	}
	if s := estimate(near()[-454], 4); s != 0 {
		t.Errorf("4 words show the sign %d", s)
	}
	if s := estimate(near()[-33], 1); s != 0 {
		t.Errorf("a word shows the sign %d", s)
	}
}
