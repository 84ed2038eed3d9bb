package mat_test

import (
	"math"
	"testing"

	"basiskeep/api"
	"basiskeep/big"
	"basiskeep/mat"
	"basiskeep/vec"
)

// wrongs: rows and how many numbers each has, and what is wrong with them.
func wrongs() []struct {
	m    api.Mat
	n    int
	want api.Errno
} {
	bad := api.Int{L: []uint32{1, 0}}
	thirteen := make(api.Mat, api.MaxRows+1)
	for i := range thirteen {
		thirteen[i] = vec.Of([]int{i, 1})
	}
	return []struct {
		m    api.Mat
		n    int
		want api.Errno
	}{
		{nil, 0, api.ErrBound},
		{nil, -1, api.ErrBound},
		{nil, api.MaxCols + 1, api.ErrBound},
		{nil, math.MinInt64, api.ErrBound},
		{nil, math.MaxInt64, api.ErrBound},
		{mats([]int{}), 0, api.ErrBound},
		{mats(make([]int, 9)), 9, api.ErrBound},
		{thirteen, 0, api.ErrBound},
		{thirteen, 2, api.ErrMany},
		{thirteen, 3, api.ErrMany},
		{make(api.Mat, api.MaxRows+1), 1, api.ErrMany},
		{append(append(api.Mat{}, thirteen[1:]...), api.Vec{bad}), 2, api.ErrMany},
		{make(api.Mat, api.MaxRows), 1, api.ErrSize},
		{mats([]int{1, 2}), 1, api.ErrSize},
		{mats([]int{1, 2}), 3, api.ErrSize},
		{mats([]int{1, 2}, []int{1}), 2, api.ErrSize},
		{mats([]int{1, 2}, []int{1, 2, 3}), 2, api.ErrSize},
		{mats([]int{1}, nil), 1, api.ErrSize},
		{api.Mat{{bad, bad}}, 2, api.ErrShape},
		{api.Mat{{big.Of(1), {Neg: true}}}, 2, api.ErrShape},
		{api.Mat{vec.Of([]int{1, 2}), {big.Of(1), bad}}, 2, api.ErrShape},
		{api.Mat{{bad}, vec.Of([]int{1, 2})}, 2, api.ErrSize},
		{api.Mat{{big.Of(1), bad}, vec.Of([]int{1})}, 2, api.ErrShape},
		{api.Mat{vec.Of([]int{1}), {big.Of(1), bad}}, 2, api.ErrSize},
	}
}

// C1: what may not be, and in which order that is told; all calls say so.
func TestWrongRows(t *testing.T) {
	for _, c := range wrongs() {
		want := error(c.want)
		if err := mat.Check(c.m, c.n); err != want {
			t.Errorf("Check(%v, %d): %v, wanted %v", c.m, c.n, err, want)
		}
		if h, err := mat.Hermite(c.m, c.n); err != want || len(h) != 0 {
			t.Errorf("Hermite(%v, %d): %v %v, wanted %v", c.m, c.n, h, err, want)
		}
		if s, err := mat.Smith(c.m, c.n); err != want || len(s) != 0 {
			t.Errorf("Smith(%v, %d): %v %v, wanted %v", c.m, c.n, s, err, want)
		}
		if k, err := mat.Kernel(c.m, c.n); err != want || len(k) != 0 {
			t.Errorf("Kernel(%v, %d): %v %v, wanted %v", c.m, c.n, k, err, want)
		}
	}
}

// C1: what may be.
func TestRightRows(t *testing.T) {
	for n := 1; n <= api.MaxCols; n++ {
		for many := range api.MaxRows + 1 {
			m := make(api.Mat, many)
			for i := range m {
				m[i] = vec.Of(make([]int, n))
			}
			if err := mat.Check(m, n); err != nil {
				t.Errorf("%d rows of %d: %v", many, n, err)
			}
		}
	}
}

// C2: examples of the one form.
func TestHermiteExamples(t *testing.T) {
	for _, c := range []struct {
		m    api.Mat
		n    int
		want string
	}{
		{nil, 3, ""},
		{mats([]int{0, 0}, []int{0, 0}), 2, ""},
		{mats([]int{4, 6}, []int{2, 4}), 2, "(2 0)(0 2)"},
		{mats([]int{3, 0}, []int{0, 5}), 2, "(3 0)(0 5)"},
		{mats([]int{-7}), 1, "(7)"},
		{mats([]int{12}, []int{-18}, []int{0}), 1, "(6)"},
		{mats([]int{0, 0, -3}), 3, "(0 0 3)"},
		{mats([]int{0, 5, 1}, []int{0, 3, 1}), 3, "(0 1 1)(0 0 2)"},
		{mats([]int{1, -1}, []int{0, 3}), 2, "(1 2)(0 3)"},
		{mats([]int{1, 3}, []int{0, 3}), 2, "(1 0)(0 3)"},
		{mats([]int{-1, 1}, []int{0, -3}), 2, "(1 2)(0 3)"},
		{mats([]int{2, 4, 6}, []int{2, 4, 6}, []int{-2, -4, -6}), 3, "(2 4 6)"},
		{mats([]int{1, 2, 3}, []int{4, 5, 6}, []int{7, 8, 9}), 3, "(1 2 3)(0 3 6)"},
	} {
		h, err := mat.Hermite(c.m, c.n)
		if got := text(t, h); err != nil || got != c.want {
			t.Errorf("%s: %s %v, wanted %s", text(t, c.m), got, err, c.want)
		}
	}
}

// C2: the one form is the one that another way finds.
func TestHermite(t *testing.T) {
	for _, m := range drawnMats(1, 6, api.MaxRows, api.MaxCols) {
		n := len(m[0])
		h, err := mat.Hermite(m, n)
		if got, want := text(t, h), told(plainForm(knownRows(m), n)); err != nil || got != want {
			t.Fatalf("%s: %s %v, wanted %s", text(t, m), got, err, want)
		}
	}
}

// C2, W1: the order of rows, their signs, one put to another, or one twice change nothing; nor does the one form itself.
func TestHermiteIsOne(t *testing.T) {
	for _, m := range drawnMats(2, 2, api.MaxRows-1, api.MaxCols) {
		if len(m) < 2 {
			continue
		}
		n := len(m[0])
		h, _ := mat.Hermite(m, n)
		want := text(t, h)
		mixed := api.Mat{m[len(m)-1]}
		for i := range m {
			mixed = append(mixed, vec.Scale(big.Of(1-2*(i%2)), m[len(m)-1-i]))
		}
		mixed[len(m)/2], _ = vec.Combine(vec.Of([]int{1, 3}), api.Mat{mixed[len(m)/2], mixed[len(m)]}, n)
		mixed[0], _ = vec.Combine(vec.Of([]int{1, -1}), api.Mat{mixed[0], mixed[len(m)]}, n)
		for _, other := range []api.Mat{mixed, h} {
			again, err := mat.Hermite(other, n)
			if err != nil || text(t, again) != want {
				t.Fatalf("%s: %s, wanted %s", text(t, other), text(t, again), want)
			}
		}
	}
}

// C5: examples of what rows make nought.
func TestKernelExamples(t *testing.T) {
	for _, c := range []struct {
		m    api.Mat
		n    int
		want string
	}{
		{nil, 1, "(1)"},
		{nil, 3, "(1 0 0)(0 1 0)(0 0 1)"},
		{mats([]int{0, 0}), 2, "(1 0)(0 1)"},
		{mats([]int{5}), 1, ""},
		{mats([]int{2, 4}), 2, "(2 -1)"},
		{mats([]int{-3, 0}, []int{6, 0}), 2, "(0 1)"},
		{mats([]int{1, 0}, []int{0, 1}), 2, ""},
		{mats([]int{1, 1, 1}), 3, "(1 0 -1)(0 1 -1)"},
		{mats([]int{1, 2, 3}, []int{4, 5, 6}, []int{7, 8, 9}), 3, "(1 -2 1)"},
	} {
		k, err := mat.Kernel(c.m, c.n)
		if got := text(t, k); err != nil || got != c.want {
			t.Errorf("%s: %s %v, wanted %s", text(t, c.m), got, err, c.want)
		}
	}
}

// C5: each row makes nought of each; they are in the one form, as many as can be, and no multiple of what isn't generated is.
func TestKernel(t *testing.T) {
	for _, m := range drawnMats(3, 3, api.MaxRows, 6) {
		n := len(m[0])
		k, err := mat.Kernel(m, n)
		if err != nil {
			t.Fatalf("%s: %v", text(t, m), err)
		}
		turned := make(api.Mat, n)
		for at := range n {
			for _, v := range k {
				turned[at] = append(turned[at], v[at])
			}
		}
		for _, v := range m {
			if made, err := vec.Combine(v, turned, len(k)); err != nil || !vec.Zero(made) {
				t.Fatalf("%s: of %s is made %s, %v", text(t, m), text(t, k), vec.Text(made), err)
			}
		}
		all := knownRows(k)
		if got, want := text(t, k), told(plainForm(knownRows(k), n)); got != want {
			t.Fatalf("%s: %s isn't in the one form: %s", text(t, m), got, want)
		}
		if len(k) != n-len(plainForm(knownRows(m), n)) || common(all, n, len(k)).Int64() != 1 {
			t.Fatalf("%s: %s is too little", text(t, m), text(t, k))
		}
	}
}
