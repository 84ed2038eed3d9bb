package mat_test

import (
	"testing"

	"basiskeep/api"
	"basiskeep/big"
	"basiskeep/mat"
	"basiskeep/vec"
)

// C3: examples of determinants.
func TestDetExamples(t *testing.T) {
	for _, c := range []struct {
		m    api.Mat
		want int
	}{
		{mats([]int{-7}), -7},
		{mats([]int{0}), 0},
		{mats([]int{1, 2}, []int{3, 4}), -2},
		{mats([]int{0, 1}, []int{1, 0}), -1},
		{mats([]int{0, 0, 1}, []int{1, 0, 0}, []int{0, 1, 0}), 1},
		{mats([]int{0, 2, 0}, []int{0, 0, 3}, []int{5, 0, 0}), 30},
		{mats([]int{1, 2, 3}, []int{4, 5, 6}, []int{7, 8, 9}), 0},
		{mats([]int{0, 1, 1}, []int{0, 2, 3}, []int{0, 4, 5}), 0},
		{mats([]int{1, 1, 1}, []int{1, 1, 2}, []int{1, 2, 1}), -1},
	} {
		d, err := mat.Det(c.m)
		if got, ok := big.Small(d); err != nil || !ok || got != c.want || big.Check(d) != nil {
			t.Errorf("%s: %v %v, wanted %d", text(t, c.m), d, err, c.want)
		}
	}
}

// C3: the determinant is what its definition says.
func TestDet(t *testing.T) {
	for _, all := range drawnMats(4, 30, api.MaxCols, api.MaxCols) {
		n := len(all[0])
		if len(all) != n {
			continue
		}
		if n > 6 && all[0][0].Neg {
			continue // those by definition take long
		}
		places := choices(n, n)[0]
		d, err := mat.Det(all)
		if want := minor(knownRows(all), places, places); err != nil || big.Check(d) != nil || known(d).Cmp(want) != 0 {
			t.Fatalf("%s: %s %v, wanted %v", text(t, all), big.Text(d), err, want)
		}
	}
}

// C3: as many rows as numbers, and C1 of it.
func TestDetRefuses(t *testing.T) {
	bad := api.Int{Neg: true}
	nine := make(api.Mat, 9)
	for i := range nine {
		nine[i] = vec.Of(make([]int, 9))
	}
	for _, c := range []struct {
		m    api.Mat
		want api.Errno
	}{
		{nil, api.ErrBound},
		{api.Mat{}, api.ErrBound},
		{nine, api.ErrBound},
		{make(api.Mat, 13), api.ErrBound},
		{mats([]int{1, 2}), api.ErrSize},
		{mats([]int{1}, []int{2}), api.ErrSize},
		{mats([]int{1, 2}, []int{1}), api.ErrSize},
		{mats(nil), api.ErrSize},
		{api.Mat{{bad}}, api.ErrShape},
		{api.Mat{{bad, bad}}, api.ErrSize},
		{api.Mat{vec.Of([]int{0, 0}), {big.Of(1), bad}}, api.ErrShape},
	} {
		d, err := mat.Det(c.m)
		if err != error(c.want) || d.Neg || len(d.L) != 0 {
			t.Errorf("%v: %v %v, wanted %v", c.m, d, err, c.want)
		}
	}
}
