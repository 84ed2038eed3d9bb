package mat_test

import (
	ref "math/big"
	"testing"

	"basiskeep/api"
	"basiskeep/big"
	"basiskeep/mat"
	"basiskeep/vec"
)

// C4: examples of invariants.
func TestSmithExamples(t *testing.T) {
	for _, c := range []struct {
		m    api.Mat
		n    int
		want string
	}{
		{nil, 2, "()"},
		{mats([]int{0, 0, 0}), 3, "()"},
		{mats([]int{-6}), 1, "(6)"},
		{mats([]int{0, 4}), 2, "(4)"},
		{mats([]int{4, 6}), 2, "(2)"},
		{mats([]int{2, 0}, []int{0, 3}), 2, "(1 6)"},
		{mats([]int{4, 0}, []int{0, 6}), 2, "(2 12)"},
		{mats([]int{6, 0, 0}, []int{0, 10, 0}, []int{0, 0, 15}), 3, "(1 30 30)"},
		{mats([]int{0, 0, 8}, []int{4, 0, 0}, []int{0, 2, 0}), 3, "(2 4 8)"},
		{mats([]int{2, 4, 4}, []int{-6, 6, 12}, []int{10, 4, 16}), 3, "(2 2 156)"},
		{mats([]int{1, 2, 3}, []int{4, 5, 6}, []int{7, 8, 9}), 3, "(1 3)"},
		{mats([]int{4, 2}, []int{0, 3}), 2, "(1 12)"},
		{mats([]int{2, 4, 6}, []int{3, 6, 9}), 3, "(1)"},
	} {
		s, err := mat.Smith(c.m, c.n)
		if got := text(t, api.Mat{s}); err != nil || got != c.want {
			t.Errorf("%s: %s %v, wanted %s", text(t, c.m), got, err, c.want)
		}
	}
}

// C4, W4: as many as Hermite has rows, above nought, each goes into the next one; the first ones, multiplied, are what goes into all determinants of so many rows and places.
func TestSmith(t *testing.T) {
	for _, m := range append(drawnMats(5, 6, 5, 5), drawnMats(6, 1, 6, 6)...) {
		n := len(m[0])
		s, err := mat.Smith(m, n)
		h, _ := mat.Hermite(m, n)
		if err != nil || len(s) != len(h) {
			t.Fatalf("%s: %s %v, wanted %d of them", text(t, m), vec.Text(s), err, len(h))
		}
		product := ref.NewInt(1)
		for k := range s {
			one := known(s[k])
			if big.Check(s[k]) != nil || one.Sign() <= 0 {
				t.Fatalf("%s: %v isn't above nought", text(t, m), s[k])
			}
			if k > 0 && new(ref.Int).Mod(one, known(s[k-1])).Sign() != 0 {
				t.Fatalf("%s: %s: one doesn't go into the next one", text(t, m), vec.Text(s))
			}
			product.Mul(product, one)
			if want := common(knownRows(m), n, k+1); product.Cmp(want) != 0 {
				t.Fatalf("%s: %s: the first %d make %v, wanted %v", text(t, m), vec.Text(s), k+1, product, want)
			}
		}
	}
}

// C4: rows as many and as long as may be; invariants that are known ahead stay behind rows are mixed.
func TestSmithKnown(t *testing.T) {
	want := vec.Of([]int{1, 2, 2, 6, 12, 12, 360, 720720})
	m := make(api.Mat, 8)
	for i := range m {
		m[i] = vec.Of(make([]int, 8))
		m[i][i] = want[7-i]
	}
	for round := range 6 {
		for i := range m {
			other := m[(i+1+round)%8]
			if (i+1+round)%8 != i {
				m[i], _ = vec.Combine(vec.Of([]int{1, 2*round - 5}), api.Mat{m[i], other}, 8)
			}
		}
		for at := range 8 {
			to := (at + 3 + round) % 8
			for i := range m {
				if to != at {
					m[i][to] = big.Add(m[i][to], big.Mul(big.Of(7-3*round), m[i][at]))
				}
			}
		}
		s, err := mat.Smith(append(m[:8:8], m[3], m[1], m[0], m[7]), 8)
		if err != nil || !vec.Alike(s, want) {
			t.Fatalf("round %d: %s %v", round, vec.Text(s), err)
		}
	}
}
