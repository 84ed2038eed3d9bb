package vec_test

import (
	ref "math/big"
	"math/rand/v2"
	"testing"

	"basiskeep/api"
	"basiskeep/big"
	"basiskeep/vec"
)

// power: 2 to the power, and so much more.
func power(exponent, more int) api.Int {
	limbs := make([]uint32, exponent/32+1)
	limbs[exponent/32] = 1 << (exponent % 32)
	return big.Add(api.Int{L: limbs}, big.Of(more))
}

// known: what the number is to the library's numbers.
func known(a api.Int) *ref.Int {
	n := new(ref.Int)
	for i := len(a.L) - 1; i >= 0; i-- {
		n.Lsh(n, 32)
		n.Add(n, ref.NewInt(int64(a.L[i])))
	}
	if a.Neg {
		n.Neg(n)
	}
	return n
}

// allKnown: each number of a vector.
func allKnown(v api.Vec) []*ref.Int {
	out := make([]*ref.Int, len(v))
	for i := range v {
		out[i] = known(v[i])
	}
	return out
}

// same: is it a list of numbers, and of these?
func same(t *testing.T, what string, got api.Vec, want []*ref.Int) {
	t.Helper()
	if len(got) != len(want) {
		t.Fatalf("%s: %d places, wanted %d", what, len(got), len(want))
	}
	for i := range got {
		if err := big.Check(got[i]); err != nil {
			t.Fatalf("%s: place %d is no number: %v", what, i, got[i])
		}
		if known(got[i]).Cmp(want[i]) != 0 {
			t.Fatalf("%s: place %d: %v, wanted %v", what, i, known(got[i]), want[i])
		}
	}
}

// refused: is it that error, bare, and nothing beside it?
func refused(t *testing.T, what string, got api.Vec, err error, want api.Errno) {
	t.Helper()
	if err != error(want) || len(got) != 0 {
		t.Fatalf("%s: %v %v, wanted the error %v alone", what, got, err, want)
	}
}

// drawn: a number that is often small.
func drawn(r *rand.Rand) api.Int {
	switch r.IntN(6) {
	case 0:
		return big.Of(0)
	case 1:
		return big.Of(int(r.Uint64()))
	case 2:
		return power(r.IntN(200), r.IntN(5)-2)
	case 3:
		return big.Neg(power(r.IntN(200), r.IntN(5)-2))
	}
	return big.Of(r.IntN(21) - 10)
}

// drawnVec of n numbers.
func drawnVec(r *rand.Rand, n int) api.Vec {
	v := make(api.Vec, n)
	for i := range v {
		v[i] = drawn(r)
	}
	return v
}

// sizes: all that a vector may have, and some that it may not have, of which Add and others make no error.
func sizes() []int { return []int{0, 1, 2, 3, 4, 5, 6, 7, 8, 9, 40} }

// ints: a vector of these.
func ints(l ...int) api.Vec { return vec.Of(l) }
