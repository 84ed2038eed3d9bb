package lattice_test

import (
	"math"
	"math/rand/v2"
	"testing"

	"basiskeep/api"
	"basiskeep/big"
	"basiskeep/lattice"
	"basiskeep/vec"
)

// badInts: what is no number.
func badInts() []api.Int {
	return []api.Int{{Neg: true}, {L: []uint32{0}}, {L: []uint32{1, 0}}, {Neg: true, L: []uint32{5, 0, 0}}}
}

// wrong: a basis, and what is wrong with it.
type wrong struct {
	b    api.Basis
	want api.Errno
}

// wrongs: one of each kind, and where several apply.
func wrongs() []wrong {
	out := []wrong{
		{api.Basis{}, api.ErrBound},
		{basis(-1), api.ErrBound},
		{basis(api.MaxDim + 1), api.ErrBound},
		{basis(math.MinInt64), api.ErrBound},
		{basis(math.MaxInt64), api.ErrBound},
		{basis(0, []int{}), api.ErrBound},
		{basis(5, []int{1, 0, 0, 0, 0}), api.ErrBound},
		{basis(8, []int{1, 0, 0, 0, 0, 0, 0, 0}), api.ErrBound},
		{api.Basis{N: 0, Rows: make(api.Mat, 20)}, api.ErrBound},
		{basis(1, []int{1}, []int{0}), api.ErrMany},
		{basis(2, []int{1, 0}, []int{0, 1}, []int{0, 0}), api.ErrMany},
		{api.Basis{N: 4, Rows: make(api.Mat, 5)}, api.ErrMany},
		{api.Basis{N: 4, Rows: make(api.Mat, 13)}, api.ErrMany},
		{basis(1, nil), api.ErrSize},
		{basis(2, []int{1}), api.ErrSize},
		{basis(2, []int{1, 0, 0}), api.ErrSize},
		{basis(3, []int{1, 0, 0}, []int{0, 1}), api.ErrSize},
		{basis(2, []int{0, 0}, []int{1}), api.ErrSize},
		{basis(1, []int{0}), api.ErrShape},
		{basis(1, []int{-1}), api.ErrShape},
		{basis(2, []int{1, 0}, []int{0, 0}), api.ErrShape},
		{basis(2, []int{0, 0}, []int{1, 0}), api.ErrShape},
		{basis(2, []int{0, 0}, []int{0, 0}), api.ErrShape},
		{basis(2, []int{0, 1}, []int{1, 0}), api.ErrShape},
		{basis(2, []int{1, 0}, []int{1, 1}), api.ErrShape},
		{basis(2, []int{2, 0}, []int{0, -2}), api.ErrShape},
		{basis(2, []int{-2, 0}, []int{0, 2}), api.ErrShape},
		{basis(2, []int{2, 2}, []int{0, 2}), api.ErrShape},
		{basis(2, []int{2, 3}, []int{0, 2}), api.ErrShape},
		{basis(2, []int{2, -1}, []int{0, 2}), api.ErrShape},
		{basis(3, []int{1, 0, 4}, []int{0, 1, 0}, []int{0, 0, 4}), api.ErrShape},
		{basis(3, []int{1, 0, 0}, []int{0, 1, 4}, []int{0, 0, 4}), api.ErrShape},
		{basis(3, []int{1, 0, 0}, []int{0, 1, -1}, []int{0, 0, 4}), api.ErrShape},
		{basis(3, []int{0, 2, 1}, []int{0, 2, 2}), api.ErrShape},
		{basis(4, []int{1, 5, 0, 0}, []int{0, 0, 1, 0}, []int{0, 0, 0, 0}), api.ErrShape},
	}
	for _, bad := range badInts() {
		out = append(out,
			wrong{api.Basis{N: 1, Rows: api.Mat{{bad}}}, api.ErrShape},
			wrong{api.Basis{N: 2, Rows: api.Mat{{big.Of(1), bad}}}, api.ErrShape},
			wrong{api.Basis{N: 2, Rows: api.Mat{{big.Of(1), bad}, vec.Of([]int{1})}}, api.ErrShape},
			wrong{api.Basis{N: 2, Rows: api.Mat{vec.Of([]int{1}), {big.Of(1), bad}}}, api.ErrSize},
			wrong{api.Basis{N: 1, Rows: api.Mat{{bad}, {bad}}}, api.ErrMany},
			wrong{api.Basis{N: 9, Rows: api.Mat{{bad}}}, api.ErrBound})
	}
	return out
}

// D1: what may not be, and in which order that is told.
func TestCheckWrong(t *testing.T) {
	for _, c := range wrongs() {
		if err := lattice.Check(c.b); err != error(c.want) {
			t.Errorf("%v: %v, wanted %v", c.b, err, c.want)
		}
	}
}

// D1: what may be.
func TestCheckRight(t *testing.T) {
	for _, b := range []api.Basis{
		basis(1), basis(2), basis(3), basis(4),
		basis(1, []int{1}), basis(1, []int{7}),
		{N: 2, Rows: api.Mat{}},
		basis(2, []int{0, 5}),
		basis(2, []int{3, -9}),
		basis(2, []int{2, 1}, []int{0, 2}),
		basis(2, []int{2, 0}, []int{0, 1}),
		basis(3, []int{1, -5, 3}, []int{0, 0, 4}),
		basis(3, []int{1, 3, -9}, []int{0, 4, -8}),
		basis(4, []int{0, 2, 1, -3}, []int{0, 0, 3, 8}),
		basis(4, []int{5, 1, 2, 3}, []int{0, 2, 2, 3}, []int{0, 0, 3, 3}, []int{0, 0, 0, 4}),
	} {
		if err := lattice.Check(b); err != nil {
			t.Errorf("%v: %v", b, err)
		}
	}
}

// D1: of rows of which each is one just those are a basis that the one form leaves as they are.
func TestCheckForm(t *testing.T) {
	r := rand.New(rand.NewPCG(4, 1))
	right := 0
	for range 20000 {
		n := 1 + r.IntN(api.MaxDim)
		m := make(api.Mat, r.IntN(n+1))
		for i := range m {
			m[i] = vec.Of(make([]int, n))
			for at := range n {
				if at >= i || r.IntN(20) == 0 {
					m[i][at] = big.Of(r.IntN(5) - 1)
				}
			}
		}
		want := told(plainForm(knownRows(m), n)) == text(t, m)
		err := lattice.Check(api.Basis{N: n, Rows: m})
		if want && err != nil || !want && err != error(api.ErrShape) {
			t.Fatalf("%s: %v, and it is so: %v", text(t, m), err, want)
		}
		if want {
			right++
		}
	}
	if right < 1000 || right > 19000 {
		t.Errorf("%d are right: too few or too many to tell", right)
	}
}

// refusedBasis: no lattice is answered.
func refusedBasis(t *testing.T, what string, got api.Basis, err error, want api.Errno) {
	t.Helper()
	if err != error(want) || got.N != 0 || len(got.Rows) != 0 {
		t.Errorf("%s: %v %v, wanted %v", what, got, err, want)
	}
}

// refusedWith: all calls of a basis and a vector say what is wrong.
func refusedWith(t *testing.T, b api.Basis, v api.Vec, want api.Errno) {
	t.Helper()
	got, err := lattice.Insert(b, v)
	refusedBasis(t, "Insert", got, err, want)
	k, is, err := lattice.Member(b, v)
	if err != error(want) || len(k) != 0 || is {
		t.Errorf("Member(%v, %v): %v %v %v, wanted %v", b, v, k, is, err, want)
	}
}

// refusedBoth: all calls of two bases say what is wrong.
func refusedBoth(t *testing.T, a, b api.Basis, want api.Errno) {
	t.Helper()
	got, err := lattice.Sum(a, b)
	refusedBasis(t, "Sum", got, err, want)
	got, err = lattice.Meet(a, b)
	refusedBasis(t, "Meet", got, err, want)
	if is, err := lattice.Inside(a, b); err != error(want) || is {
		t.Errorf("Inside(%v, %v): %v %v, wanted %v", a, b, is, err, want)
	}
	refusedClasses(t, a, b, want)
}

// refusedClasses: there is nothing to tell of classes.
func refusedClasses(t *testing.T, a, b api.Basis, want api.Errno) {
	t.Helper()
	if i, err := lattice.Index(a, b); err != error(want) || i.Neg || len(i.L) != 0 {
		t.Errorf("Index(%v, %v): %v %v, wanted %v", a, b, i, err, want)
	}
	if q, err := lattice.Quotient(a, b); err != error(want) || len(q.D) != 0 || q.Free != 0 {
		t.Errorf("Quotient(%v, %v): %v %v, wanted %v", a, b, q, err, want)
	}
}

// D1: every call says of a wrong basis what Check says, ahead of all else.
func TestWrongBasis(t *testing.T) {
	right := basis(2, []int{1, 0})
	for _, c := range wrongs() {
		for _, v := range []api.Vec{nil, vec.Of(make([]int, max(0, min(c.b.N, 20)))), {badInts()[0]}} {
			refusedWith(t, c.b, v, c.want)
		}
		got, err := lattice.Fill(c.b)
		refusedBasis(t, "Fill", got, err, c.want)
		refusedBoth(t, c.b, right, c.want)
		refusedBoth(t, right, c.b, c.want)
		for _, d := range wrongs() {
			refusedBoth(t, c.b, d.b, c.want)
		}
	}
}

// D1: two must be of one size.
func TestWrongSizes(t *testing.T) {
	for n := 1; n <= api.MaxDim; n++ {
		for m := 1; m <= api.MaxDim; m++ {
			if n == m {
				continue
			}
			for _, a := range []api.Basis{must[api.Basis](t)(lattice.New(n)), must[api.Basis](t)(lattice.Whole(n))} {
				refusedBoth(t, a, must[api.Basis](t)(lattice.New(m)), api.ErrSize)
				refusedBoth(t, a, must[api.Basis](t)(lattice.Whole(m)), api.ErrSize)
			}
		}
	}
}

// D1: a vector must have as many numbers, and each be one.
func TestWrongVector(t *testing.T) {
	for n := 1; n <= api.MaxDim; n++ {
		for _, b := range []api.Basis{must[api.Basis](t)(lattice.New(n)), must[api.Basis](t)(lattice.Whole(n))} {
			for size := range 12 {
				if size != n {
					refusedWith(t, b, vec.Of(make([]int, size)), api.ErrSize)
				}
			}
			for _, bad := range badInts() {
				for at := range n {
					v := vec.Of(make([]int, n))
					v[at] = bad
					refusedWith(t, b, v, api.ErrShape)
				}
				longer := vec.Of(make([]int, n+1))
				longer[0] = bad
				refusedWith(t, b, longer, api.ErrSize)
			}
		}
	}
}

// D1: nought alone, and all.
func TestNewWhole(t *testing.T) {
	for n := 1; n <= api.MaxDim; n++ {
		none, err := lattice.New(n)
		isLattice(t, "New", none, err, n, nil)
		if len(none.Rows) != 0 {
			t.Errorf("New(%d): %v", n, none)
		}
		all, err := lattice.Whole(n)
		isLattice(t, "Whole", all, err, n, all.Rows)
		if len(all.Rows) != n {
			t.Fatalf("Whole(%d): %v", n, all)
		}
		for _, v := range box(n, 1) {
			if k, is, err := lattice.Member(all, v); !is || err != nil || !vec.Alike(k, v) {
				t.Errorf("Whole(%d): %s: %v %v %v", n, vec.Text(v), k, is, err)
			}
		}
	}
	for _, n := range []int{0, -1, 5, 8, math.MinInt64, math.MaxInt64} {
		got, err := lattice.New(n)
		refusedBasis(t, "New", got, err, api.ErrBound)
		got, err = lattice.Whole(n)
		refusedBasis(t, "Whole", got, err, api.ErrBound)
	}
}
