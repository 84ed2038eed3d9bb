package lattice_test

import (
	ref "math/big"
	"math/rand/v2"
	"slices"
	"testing"

	"basiskeep/api"
	"basiskeep/big"
	"basiskeep/lattice"
	"basiskeep/vec"
)

// D2: examples.
func TestMemberExamples(t *testing.T) {
	for _, c := range []struct {
		b    api.Basis
		v    []int
		want string
		is   bool
	}{
		{basis(2, []int{2, 0}, []int{0, 2}), []int{6, 10}, "(3 5)", true},
		{basis(2, []int{2, 0}, []int{0, 2}), []int{1, 0}, "()", false},
		{basis(2, []int{2, 0}, []int{0, 2}), []int{0, 1}, "()", false},
		{basis(2, []int{2, 0}, []int{0, 2}), []int{0, 0}, "(0 0)", true},
		{basis(2, []int{2, 1}, []int{0, 3}), []int{-4, 1}, "(-2 1)", true},
		{basis(2, []int{2, 1}, []int{0, 3}), []int{-4, 2}, "()", false},
		{basis(1), []int{0}, "()", true},
		{basis(1), []int{5}, "()", false},
		{basis(4), []int{0, 0, 0, 0}, "()", true},
		{basis(4), []int{0, 0, 0, -1}, "()", false},
		{basis(2, []int{4, 6}), []int{-8, -12}, "(-2)", true},
		{basis(2, []int{4, 6}), []int{2, 3}, "()", false},
		{basis(2, []int{4, 6}), []int{4, 7}, "()", false},
		{basis(2, []int{0, 3}), []int{1, 3}, "()", false},
		{basis(3, []int{0, 1, 5}), []int{0, 7, 35}, "(7)", true},
		{basis(3, []int{0, 1, 5}), []int{1, 7, 35}, "()", false},
		{basis(3, []int{1, 0, 2}, []int{0, 0, 3}), []int{4, 0, 5}, "(4 -1)", true},
		{basis(3, []int{1, 0, 2}, []int{0, 0, 3}), []int{4, 1, 5}, "()", false},
	} {
		k, is, err := lattice.Member(c.b, vec.Of(c.v))
		if err != nil || is != c.is || text(t, api.Mat{k}) != c.want {
			t.Errorf("%s: %v: %s %v %v, wanted %s %v", text(t, c.b.Rows), c.v, vec.Text(k), is, err, c.want, c.is)
		}
	}
}

// D2, W2: a vector lies in it just if putting it in changes nothing; and so much of each row makes it.
func TestMember(t *testing.T) {
	r := rand.New(rand.NewPCG(4, 9))
	in, out := 0, 0
	for _, p := range pairs(t, 10, 150) {
		vectors := slices.Concat(mixed(r, p.ofA, p.n), mixed(r, p.ofB, p.n), drawnMat(r, 2, p.n))
		for _, v := range slices.Clone(vectors) {
			near := slices.Clone(v)
			at := r.IntN(p.n)
			near[at] = big.Add(near[at], big.Of(1))
			vectors = append(vectors, near)
		}
		for _, v := range vectors {
			k, is, err := lattice.Member(p.a, v)
			want := told(plainForm(knownRows(slices.Concat(p.ofA, api.Mat{v})), p.n)) == text(t, p.a.Rows)
			if err != nil || is != want {
				t.Fatalf("%s in %s: %v %v", vec.Text(v), text(t, p.a.Rows), is, err)
			}
			if !is {
				out++
				if len(k) != 0 {
					t.Fatalf("%s in %s: %s", vec.Text(v), text(t, p.a.Rows), vec.Text(k))
				}
				continue
			}
			in++
			text(t, api.Mat{k})
			if back, err := vec.Combine(k, p.a.Rows, p.n); err != nil || !vec.Alike(back, v) {
				t.Fatalf("%s in %s: %s", vec.Text(v), text(t, p.a.Rows), vec.Text(k))
			}
		}
	}
	if in < 500 || out < 500 {
		t.Errorf("%d lie in it, %d don't: too few to tell", in, out)
	}
}

// D5: all of a lies in b just if b is what both are together.
func TestInside(t *testing.T) {
	in, out := 0, 0
	for _, p := range pairs(t, 11, 150) {
		want := told(plainForm(knownRows(slices.Concat(p.ofA, p.ofB)), p.n)) == text(t, p.b.Rows)
		is, err := lattice.Inside(p.a, p.b)
		if err != nil || is != want {
			t.Fatalf("%s in %s: %v %v", text(t, p.a.Rows), text(t, p.b.Rows), is, err)
		}
		if is {
			in++
		} else {
			out++
			refusedClasses(t, p.a, p.b, api.ErrOutside)
		}
	}
	if in < 100 || out < 100 {
		t.Errorf("%d lie in it, %d don't: too few to tell", in, out)
	}
}

// D5, D6: examples.
func TestClassesExamples(t *testing.T) {
	whole := func(n int) api.Basis { return must[api.Basis](t)(lattice.Whole(n)) }
	for _, c := range []struct {
		a, b        api.Basis
		index, form string
		free        int
	}{
		{basis(1), basis(1), "1", "()", 0},
		{basis(4), basis(4), "1", "()", 0},
		{whole(4), whole(4), "1", "()", 0},
		{basis(1, []int{7}), whole(1), "7", "(7)", 0},
		{basis(2, []int{2, 0}, []int{0, 2}), whole(2), "4", "(2 2)", 0},
		{basis(2, []int{2, 0}, []int{0, 3}), whole(2), "6", "(6)", 0},
		{basis(2, []int{1, 5}, []int{0, 12}), whole(2), "12", "(12)", 0},
		{basis(2, []int{6, 0}, []int{0, 10}), basis(2, []int{2, 0}, []int{0, 2}), "15", "(15)", 0},
		{basis(2, []int{6, 0}, []int{0, 10}), whole(2), "60", "(2 30)", 0},
		{basis(3, []int{2, 4, 6}), basis(3, []int{1, 2, 3}), "2", "(2)", 0},
		{basis(3, []int{2, 4, 6}), whole(3), "", "(2)", 2},
		{basis(3, []int{1, 2, 3}), whole(3), "", "()", 2},
		{basis(3), whole(3), "", "()", 3},
		{basis(3), basis(3, []int{5, 5, 5}), "", "()", 1},
		{basis(4, []int{4, 0, 0, 0}, []int{0, 6, 0, 0}, []int{0, 0, 10, 0}), whole(4), "", "(2 2 60)", 1},
		{basis(4, []int{2, 0, 0, 0}, []int{0, 4, 0, 0}, []int{0, 0, 8, 0}, []int{0, 0, 0, 16}), whole(4), "1024", "(2 4 8 16)", 0},
	} {
		q, err := lattice.Quotient(c.a, c.b)
		if err != nil || text(t, api.Mat{q.D}) != c.form || q.Free != c.free {
			t.Errorf("%s in %s: %s %d %v, wanted %s %d", text(t, c.a.Rows), text(t, c.b.Rows), vec.Text(q.D), q.Free, err, c.form, c.free)
		}
		i, err := lattice.Index(c.a, c.b)
		if c.index == "" && (err != error(api.ErrEndless) || i.Neg || len(i.L) != 0) {
			t.Errorf("%s in %s: %v %v, wanted no end", text(t, c.a.Rows), text(t, c.b.Rows), i, err)
		}
		if c.index != "" && (err != nil || big.Check(i) != nil || big.Text(i) != c.index) {
			t.Errorf("%s in %s: %v %v, wanted %s", text(t, c.a.Rows), text(t, c.b.Rows), i, err, c.index)
		}
	}
}

// D5: what doesn't lie in it.
func TestOutsideExamples(t *testing.T) {
	for _, c := range [][2]api.Basis{
		{basis(1, []int{1}), basis(1)},
		{basis(1, []int{1}), basis(1, []int{2})},
		{basis(2, []int{1, 0}), basis(2, []int{0, 1})},
		{basis(2, []int{2, 0}, []int{0, 3}), basis(2, []int{2, 0}, []int{0, 2})},
		{basis(2, []int{3, 0}, []int{0, 2}), basis(2, []int{2, 0}, []int{0, 2})},
		{basis(3, []int{1, 0, 0}, []int{0, 1, 0}), basis(3, []int{1, 0, 0})},
	} {
		if is, err := lattice.Inside(c[0], c[1]); is || err != nil {
			t.Errorf("%v in %v: %v %v", c[0], c[1], is, err)
		}
		refusedClasses(t, c[0], c[1], api.ErrOutside)
	}
}

// D5, D6, W4: classes by the determinants of how much of the second one's rows the first one's are.
func TestClasses(t *testing.T) {
	endless, ended := 0, 0
	for _, p := range pairs(t, 12, 150) {
		b := must[api.Basis](t)(lattice.Sum(p.a, p.b))
		var much api.Mat
		for _, v := range p.a.Rows {
			k, _, _ := lattice.Member(b, v)
			much = append(much, k)
		}
		q, err := lattice.Quotient(p.a, b)
		if err != nil || q.Free != len(b.Rows)-len(p.a.Rows) {
			t.Fatalf("%s in %s: %v %v", text(t, p.a.Rows), text(t, b.Rows), q, err)
		}
		isForm(t, q.D, knownRows(much), len(b.Rows))
		i, err := lattice.Index(p.a, b)
		if q.Free > 0 {
			endless++
			if err != error(api.ErrEndless) {
				t.Fatalf("%s in %s: %v %v", text(t, p.a.Rows), text(t, b.Rows), i, err)
			}
			continue
		}
		ended++
		if want := common(knownRows(much), len(much), len(much)); len(much) > 0 && (err != nil || known(i).Cmp(want) != 0) {
			t.Fatalf("%s in %s: %s %v, wanted %v", text(t, p.a.Rows), text(t, b.Rows), big.Text(i), err, want)
		}
	}
	if endless < 100 || ended < 100 {
		t.Errorf("%d without an end, %d with one: too few to tell", endless, ended)
	}
}

// isForm: the invariants, but those that are 1, are those of rows that don't hang on each other.
func isForm(t *testing.T, d []api.Int, m rows, n int) {
	t.Helper()
	product, ones := ref.NewInt(1), len(m)-len(d)
	if ones < 0 {
		t.Fatalf("%s: %s: too many", told(m), vec.Text(d))
	}
	for k := range m {
		if k >= ones {
			one := known(d[k-ones])
			if big.Check(d[k-ones]) != nil || one.Cmp(ref.NewInt(1)) <= 0 {
				t.Fatalf("%s: %v isn't above 1", told(m), d[k-ones])
			}
			if k > ones && new(ref.Int).Mod(one, known(d[k-ones-1])).Sign() != 0 {
				t.Fatalf("%s: %s: one doesn't go into the next one", told(m), vec.Text(d))
			}
			product.Mul(product, one)
		}
		if want := common(m, n, k+1); product.Cmp(want) != 0 {
			t.Fatalf("%s: %s: the first %d make %v, wanted %v", told(m), vec.Text(d), k+1, product, want)
		}
	}
}

// D5: vectors counted, one of each class.
func TestIndexCounted(t *testing.T) {
	r := rand.New(rand.NewPCG(4, 13))
	for range 40 {
		n := 1 + r.IntN(3)
		m := make(api.Mat, n)
		for i := range m {
			m[i] = make(api.Vec, n)
			for at := range n {
				m[i][at] = big.Of(r.IntN(5) - 2)
			}
		}
		a, all := made(t, n, m), must[api.Basis](t)(lattice.Whole(n))
		i, err := lattice.Index(a, all)
		if len(a.Rows) < n {
			if err != error(api.ErrEndless) {
				t.Fatalf("%s: %v %v", text(t, a.Rows), i, err)
			}
			continue
		}
		var apart []api.Vec
		for _, v := range box(n, 8) {
			if !slices.ContainsFunc(apart, func(w api.Vec) bool {
				between, _ := vec.Sub(v, w)
				_, is, _ := lattice.Member(a, between)
				return is
			}) {
				apart = append(apart, v)
			}
		}
		if got, ok := big.Small(i); err != nil || !ok || got != len(apart) {
			t.Fatalf("%s: %s %v, counted are %d", text(t, a.Rows), big.Text(i), err, len(apart))
		}
	}
}

// W3: indices of lattices in each other are multiplied.
func TestIndexTower(t *testing.T) {
	r := rand.New(rand.NewPCG(4, 14))
	for range 100 {
		n := 1 + r.IntN(api.MaxDim)
		high := made(t, n, drawnMat(r, 1+r.IntN(n), n))
		middle := made(t, n, mixed(r, high.Rows, n))
		low := made(t, n, mixed(r, middle.Rows, n))
		if len(low.Rows) < len(high.Rows) {
			refusedEnd(t, low, high)
			continue
		}
		first := must[api.Int](t)(lattice.Index(low, middle))
		second := must[api.Int](t)(lattice.Index(middle, high))
		both := must[api.Int](t)(lattice.Index(low, high))
		if big.Compare(big.Mul(first, second), both) != 0 {
			t.Fatalf("%s in %s in %s: %s, %s, %s", text(t, low.Rows), text(t, middle.Rows), text(t, high.Rows), big.Text(first), big.Text(second), big.Text(both))
		}
	}
}

// refusedEnd: there is no end of classes.
func refusedEnd(t *testing.T, a, b api.Basis) {
	t.Helper()
	if i, err := lattice.Index(a, b); err != error(api.ErrEndless) || i.Neg || len(i.L) != 0 {
		t.Fatalf("%s in %s: %v %v", text(t, a.Rows), text(t, b.Rows), i, err)
	}
}
