package lattice_test

import (
	"math/rand/v2"
	"slices"
	"testing"

	"basiskeep/api"
	"basiskeep/big"
	"basiskeep/lattice"
	"basiskeep/vec"
)

// D3, W1: vectors put in one by one: behind each the lattice is the one form of all up to it; in which order, and whether twice, turned about, or put to each other, changes nothing.
func TestInsert(t *testing.T) {
	r := rand.New(rand.NewPCG(4, 2))
	for range 300 {
		n := 1 + r.IntN(api.MaxDim)
		m := drawnMat(r, r.IntN(7), n)
		b := must[api.Basis](t)(lattice.New(n))
		for i, v := range m {
			var err error
			b, err = lattice.Insert(b, v)
			isLattice(t, "Insert", b, err, n, m[:i+1])
		}
		other := slices.Clone(m)
		r.Shuffle(len(other), func(i, j int) { other[i], other[j] = other[j], other[i] })
		for i := range other {
			switch r.IntN(3) {
			case 0:
				other[i] = vec.Scale(big.Of(-1), other[i])
			case 1:
				if j := r.IntN(len(other)); j != i {
					other[i], _ = vec.Combine(vec.Of([]int{1, r.IntN(9) - 4}), api.Mat{other[i], other[j]}, n)
				}
			}
		}
		for _, v := range slices.Clone(other) {
			if r.IntN(3) == 0 {
				other = append(other, v)
			}
		}
		same(t, text(t, m), b, made(t, n, other))
	}
}

// D3: examples.
func TestInsertExamples(t *testing.T) {
	for _, c := range []struct {
		b    api.Basis
		v    []int
		want string
	}{
		{basis(2), []int{0, 0}, ""},
		{basis(2), []int{0, -3}, "(0 3)"},
		{basis(2, []int{4, 6}), []int{2, 4}, "(2 0)(0 2)"},
		{basis(2, []int{4, 6}), []int{0, 0}, "(4 6)"},
		{basis(2, []int{4, 6}), []int{6, 9}, "(2 3)"},
		{basis(3, []int{1, 2, 3}), []int{4, 5, 6}, "(1 2 3)(0 3 6)"},
		{basis(3, []int{1, 2, 3}, []int{0, 3, 6}), []int{7, 8, 10}, "(1 2 0)(0 3 0)(0 0 1)"},
		{basis(4, []int{1, 0, 0, 0}, []int{0, 1, 0, 0}, []int{0, 0, 1, 0}, []int{0, 0, 0, 1}), []int{5, 6, 7, 8}, "(1 0 0 0)(0 1 0 0)(0 0 1 0)(0 0 0 1)"},
	} {
		b, err := lattice.Insert(c.b, vec.Of(c.v))
		if err != nil || b.N != c.b.N || text(t, b.Rows) != c.want {
			t.Errorf("%s and %v: %s %v, wanted %s", text(t, c.b.Rows), c.v, text(t, b.Rows), err, c.want)
		}
	}
}

// D4, W2: the sum is what both generate; both lie in it, and it lies in whatever both lie in.
func TestSum(t *testing.T) {
	for _, p := range pairs(t, 3, 100) {
		s, err := lattice.Sum(p.a, p.b)
		isLattice(t, "Sum", s, err, p.n, slices.Concat(p.ofA, p.ofB))
		same(t, "Sum, the other way round", s, must[api.Basis](t)(lattice.Sum(p.b, p.a)))
		if !must[bool](t)(lattice.Inside(p.a, s)) || !must[bool](t)(lattice.Inside(p.b, s)) {
			t.Fatalf("%s and %s: one lies not in %s", text(t, p.a.Rows), text(t, p.b.Rows), text(t, s.Rows))
		}
		same(t, "Sum with itself", p.a, must[api.Basis](t)(lattice.Sum(p.a, p.a)))
		same(t, "Sum with nought", p.a, must[api.Basis](t)(lattice.Sum(p.a, basis(p.n))))
		all := must[api.Basis](t)(lattice.Whole(p.n))
		same(t, "Sum with all", all, must[api.Basis](t)(lattice.Sum(p.a, all)))
	}
}

// D4: examples.
func TestSumMeetExamples(t *testing.T) {
	for _, c := range []struct {
		a, b      api.Basis
		sum, meet string
	}{
		{basis(1), basis(1), "", ""},
		{basis(1, []int{4}), basis(1), "(4)", ""},
		{basis(1, []int{4}), basis(1, []int{6}), "(2)", "(12)"},
		{basis(2, []int{2, 0}, []int{0, 2}), basis(2, []int{3, 0}, []int{0, 5}), "(1 0)(0 1)", "(6 0)(0 10)"},
		{basis(2, []int{1, 1}), basis(2, []int{1, -1}), "(1 1)(0 2)", ""},
		{basis(2, []int{2, 4}), basis(2, []int{3, 6}), "(1 2)", "(6 12)"},
		{basis(2, []int{1, 1}, []int{0, 2}), basis(2, []int{1, 0}), "(1 0)(0 1)", "(2 0)"},
		{basis(3, []int{1, 0, 0}, []int{0, 1, 0}), basis(3, []int{0, 1, 0}, []int{0, 0, 1}), "(1 0 0)(0 1 0)(0 0 1)", "(0 1 0)"},
		{basis(4, []int{1, 0, 0, 1}, []int{0, 2, 0, 0}), basis(4, []int{0, 3, 0, 0}, []int{0, 0, 5, 0}), "(1 0 0 1)(0 1 0 0)(0 0 5 0)", "(0 6 0 0)"},
	} {
		s, err := lattice.Sum(c.a, c.b)
		if err != nil || s.N != c.a.N || text(t, s.Rows) != c.sum {
			t.Errorf("%s + %s: %s %v, wanted %s", text(t, c.a.Rows), text(t, c.b.Rows), text(t, s.Rows), err, c.sum)
		}
		m, err := lattice.Meet(c.a, c.b)
		if err != nil || m.N != c.a.N || text(t, m.Rows) != c.meet {
			t.Errorf("%s & %s: %s %v, wanted %s", text(t, c.a.Rows), text(t, c.b.Rows), text(t, m.Rows), err, c.meet)
		}
	}
}

// D4, W2, W3: the meet lies in both, and the first one has as many classes by it, of the same form, as both together have by the second one: so nothing that lies in both is missing.
func TestMeet(t *testing.T) {
	quotient := must[api.Quotient](t)
	for _, p := range pairs(t, 4, 100) {
		m, err := lattice.Meet(p.a, p.b)
		isLattice(t, "Meet", m, err, p.n, m.Rows)
		s := must[api.Basis](t)(lattice.Sum(p.a, p.b))
		for _, two := range [][2]api.Basis{{p.a, p.b}, {p.b, p.a}} {
			less := quotient(lattice.Quotient(m, two[0]))
			more := quotient(lattice.Quotient(two[1], s))
			if vec.Text(less.D) != vec.Text(more.D) || less.Free != more.Free {
				t.Fatalf("%s and %s: %v, and %v", text(t, p.a.Rows), text(t, p.b.Rows), less, more)
			}
		}
		same(t, "Meet, the other way round", m, must[api.Basis](t)(lattice.Meet(p.b, p.a)))
		same(t, "Meet with itself", p.a, must[api.Basis](t)(lattice.Meet(p.a, p.a)))
		same(t, "Meet with nought", basis(p.n), must[api.Basis](t)(lattice.Meet(p.a, basis(p.n))))
		same(t, "Meet with all", p.a, must[api.Basis](t)(lattice.Meet(p.a, must[api.Basis](t)(lattice.Whole(p.n)))))
	}
}

// D4, W2: a vector lies in the meet just if it lies in both.
func TestMeetVectors(t *testing.T) {
	r := rand.New(rand.NewPCG(4, 5))
	for range 60 {
		n := 1 + r.IntN(3)
		plain := func() api.Basis {
			m := make(api.Mat, r.IntN(n+1))
			for i := range m {
				m[i] = make(api.Vec, n)
				for at := range n {
					m[i][at] = big.Of(r.IntN(7) - 3)
				}
			}
			return made(t, n, m)
		}
		a, b := plain(), plain()
		m := must[api.Basis](t)(lattice.Meet(a, b))
		for _, v := range box(n, 6) {
			_, inA, _ := lattice.Member(a, v)
			_, inB, _ := lattice.Member(b, v)
			if _, inM, _ := lattice.Member(m, v); inM != (inA && inB) {
				t.Fatalf("%s: %v in %s, %v in %s, %v in %s", vec.Text(v), inA, text(t, a.Rows), inB, text(t, b.Rows), inM, text(t, m.Rows))
			}
		}
	}
}

// W3: if a lies in c, a and what b and c have in common are what a and b are together, as far as it lies in c.
func TestModular(t *testing.T) {
	basis := must[api.Basis](t)
	all := pairs(t, 6, 60)
	for i, p := range all {
		other := all[(i+10*api.MaxDim)%len(all)] // sizes go round
		c := basis(lattice.Sum(p.a, other.b))
		left := basis(lattice.Sum(p.a, basis(lattice.Meet(p.b, c))))
		right := basis(lattice.Meet(basis(lattice.Sum(p.a, p.b)), c))
		same(t, text(t, p.a.Rows)+" "+text(t, p.b.Rows), left, right)
	}
}

// D7: it lies in what fills it, which has as many rows, and by which all vectors are without an end only: so nothing more has a multiple in it, and nothing is missing.
func TestFill(t *testing.T) {
	for _, p := range pairs(t, 7, 100) {
		f, err := lattice.Fill(p.a)
		isLattice(t, "Fill", f, err, p.n, f.Rows)
		all := must[api.Basis](t)(lattice.Whole(p.n))
		inside := must[api.Quotient](t)(lattice.Quotient(p.a, f))
		around := must[api.Quotient](t)(lattice.Quotient(f, all))
		if inside.Free != 0 || len(around.D) != 0 || around.Free != p.n-len(p.a.Rows) {
			t.Fatalf("%s: %s: %v, and %v", text(t, p.a.Rows), text(t, f.Rows), inside, around)
		}
		same(t, "Fill of what is filled", f, must[api.Basis](t)(lattice.Fill(f)))
	}
}

// D7: a vector lies in it just if with it the rows, which hang on each other no less than before, are one too many: all determinants of them are nought.
func TestFillVectors(t *testing.T) {
	r := rand.New(rand.NewPCG(4, 8))
	for range 60 {
		n := 1 + r.IntN(3)
		m := make(api.Mat, r.IntN(n+1))
		for i := range m {
			m[i] = make(api.Vec, n)
			for at := range n {
				m[i][at] = big.Of([]int{0, 2, -4, 6, 3, 9, 1}[r.IntN(7)])
			}
		}
		b := made(t, n, m)
		f := must[api.Basis](t)(lattice.Fill(b))
		for _, v := range box(n, 3) {
			more := slices.Concat(b.Rows, api.Mat{v})
			want := common(knownRows(more), n, len(more)).Sign() == 0
			if _, is, _ := lattice.Member(f, v); is != want {
				t.Fatalf("%s fills %s: %s: %v", text(t, f.Rows), text(t, b.Rows), vec.Text(v), is)
			}
		}
	}
}

// D7: examples.
func TestFillExamples(t *testing.T) {
	for _, c := range []struct {
		b    api.Basis
		want string
	}{
		{basis(1), ""},
		{basis(4), ""},
		{basis(1, []int{12}), "(1)"},
		{basis(2, []int{0, 9}), "(0 1)"},
		{basis(2, []int{4, -6}), "(2 -3)"},
		{basis(3, []int{2, 4, 6}), "(1 2 3)"},
		{basis(3, []int{2, 0, 1}, []int{0, 2, 1}), "(1 1 1)(0 2 1)"},
		{basis(3, []int{2, 0, 0}, []int{0, 3, 0}, []int{0, 0, 5}), "(1 0 0)(0 1 0)(0 0 1)"},
		{basis(4, []int{0, 6, 0, 0}, []int{0, 0, 0, 10}), "(0 1 0 0)(0 0 0 1)"},
	} {
		f, err := lattice.Fill(c.b)
		if err != nil || f.N != c.b.N || text(t, f.Rows) != c.want {
			t.Errorf("%s: %s %v, wanted %s", text(t, c.b.Rows), text(t, f.Rows), err, c.want)
		}
	}
}
