package big_test

import (
	ref "math/big"
	"math/rand/v2"
	"testing"

	"basiskeep/api"
	"basiskeep/big"
)

// of: the number of these limbs, the lowest first.
func of(neg bool, limbs ...uint32) api.Int { return api.Int{Neg: neg, L: limbs} }

// known: what the number is to the library's numbers, which share no code with package big.
func known(a api.Int) *ref.Int {
	n := new(ref.Int)
	for i := len(a.L) - 1; i >= 0; i-- {
		n.Lsh(n, 32)
		n.Add(n, ref.NewInt(int64(a.L[i])))
	}
	if a.Neg {
		n.Neg(n)
	}
	return n
}

// same: is it a number, and that one?
func same(t *testing.T, what string, got api.Int, want *ref.Int) {
	t.Helper()
	if err := big.Check(got); err != nil {
		t.Fatalf("%s: %v is no number: %v", what, got, err)
	}
	if known(got).Cmp(want) != 0 {
		t.Fatalf("%s: %v, wanted %v", what, known(got), want)
	}
}

// edges: nought, numbers about each power at which limbs, signs or 64 bits end, and those that make a division guess too much.
func edges() []api.Int {
	const top, half = 1<<32 - 1, 1 << 31
	var out []api.Int
	for _, l := range [][]uint32{
		{1}, {2}, {3}, {9}, {10}, {half - 1}, {half}, {half + 1}, {top - 1}, {top},
		{0, 1}, {1, 1}, {top, 1}, {0, half}, {1, half}, {top, half - 1}, {0, top}, {top, top},
		{0, 0, 1}, {1, 0, 1}, {top, top, top}, {0, 0, half}, {3, 0, half}, {1, 0, 1 << 29},
		{top, half}, {0, top - 1, half}, {1, 0, half}, {0, 0, half, half - 1}, {0, top, half, half},
		{0, 0, 0, 1}, {top, top, top, top}, {0, 0, 0, 0, 0, 1}, {7, 0, 0, 5, 0, top},
		{1000000000}, {999999999}, {0xa7640000, 0xde0b6b3},
	} {
		out = append(out, of(false, l...), of(true, l...))
	}
	return append(out, of(false))
}

// drawn: a number of at most so many limbs, many of them nought or all bits.
func drawn(r *rand.Rand, most int) api.Int {
	l := make([]uint32, r.IntN(most+1))
	for i := range l {
		l[i] = []uint32{0, 1, 1 << 31, 1<<32 - 1, r.Uint32N(9), r.Uint32(), r.Uint32()}[r.IntN(7)]
	}
	for len(l) > 0 && l[len(l)-1] == 0 {
		l = l[:len(l)-1]
	}
	return of(len(l) > 0 && r.IntN(2) == 0, l...)
}

// pairs: all pairs of edges, and some that are drawn, the same each time; some of these go into each other.
func pairs() [][2]api.Int {
	var out [][2]api.Int
	for _, a := range edges() {
		for _, b := range edges() {
			out = append(out, [2]api.Int{a, b})
		}
	}
	r := rand.New(rand.NewPCG(1, 2))
	for range 6000 {
		a, b := drawn(r, 12), drawn(r, 7)
		out = append(out, [2]api.Int{a, b}, [2]api.Int{big.Mul(a, b), b}, [2]api.Int{big.Sub(big.Mul(a, b), big.Of(1)), b})
	}
	return out
}
