package query_test

import (
	"math/rand/v2"
	"testing"

	"basiskeep/api"
	"basiskeep/bag"
	"basiskeep/big"
	"basiskeep/lattice"
	"basiskeep/query"
	"basiskeep/vec"
)

// example: the document's lattices.
func example(t *testing.T) bag.Catalog {
	return catalog(t,
		api.Named{Name: "a", N: 2, Gens: [][]int{{4, 6}, {2, 4}}},
		api.Named{Name: "b", N: 2, Gens: [][]int{{3, 0}, {0, 5}}},
		api.Named{Name: "c", N: 3, Gens: [][]int{{2, 4, 6}}},
		api.Named{Name: "e", N: 2},
		api.Named{Name: "fill", N: 2, Gens: [][]int{{1, 1}}})
}

// L3: expressions of each kind over the document's lattices.
func TestValues(t *testing.T) {
	for _, c := range []struct {
		e, want string
		n       int
	}{
		{"a", "(2 0) (0 2)", 2},
		{"b", "(3 0) (0 5)", 2},
		{"c", "(2 4 6)", 3},
		{"e", "", 2},
		{"(a + b)", "(1 0) (0 1)", 2},
		{"(a & b)", "(6 0) (0 10)", 2},
		{"(b & a)", "(6 0) (0 10)", 2},
		{"(a + a)", "(2 0) (0 2)", 2},
		{"(a + e)", "(2 0) (0 2)", 2},
		{"(a & e)", "", 2},
		{"fill a", "(1 0) (0 1)", 2},
		{"fill c", "(1 2 3)", 3},
		{"fill e", "", 2},
		{"whole 1", "(1)", 1},
		{"whole 4", "(1 0 0 0) (0 1 0 0) (0 0 1 0) (0 0 0 1)", 4},
		{"(c & whole 3)", "(2 4 6)", 3},
		{"(c + whole 3)", "(1 0 0) (0 1 0) (0 0 1)", 3},
		{"((a & b) + (e & whole 2))", "(6 0) (0 10)", 2},
		{"fill (e + fill fill a)", "(1 0) (0 1)", 2},
		{"(fill c & c)", "(2 4 6)", 3},
	} {
		e, err := query.Parse(c.e)
		if err != nil {
			t.Fatal(c.e, err)
		}
		b, err := query.Eval(e, example(t))
		if err != nil || b.N != c.n || text(b) != c.want {
			t.Errorf("%s: %v %s %v, wanted %s", c.e, b.N, text(b), err, c.want)
		}
	}
}

// L3: what is wrong with an expression's value: of those in it the first one's, ahead of its own.
func TestWrongValues(t *testing.T) {
	for _, c := range []struct {
		e    string
		want api.Errno
	}{
		{"z", api.ErrNone}, {"aa", api.ErrNone}, {"fill z", api.ErrNone}, {"fills", api.ErrNone},
		{"(a + c)", api.ErrSize}, {"(a & c)", api.ErrSize}, {"(c + a)", api.ErrSize}, {"(e & c)", api.ErrSize},
		{"(whole 1 + whole 2)", api.ErrSize}, {"(a & whole 4)", api.ErrSize}, {"fill (a + c)", api.ErrSize},
		{"(z + a)", api.ErrNone}, {"(a + z)", api.ErrNone}, {"(z & z)", api.ErrNone},
		{"((a + c) + z)", api.ErrSize}, {"(z + (a + c))", api.ErrNone},
		{"((a + z) & (a + c))", api.ErrNone}, {"((a & c) & (a + z))", api.ErrSize},
		{"((a + b) & (b & z))", api.ErrNone}, {"((a + b) & (c + whole 3))", api.ErrSize},
		{"(fill (a & whole 3) + z)", api.ErrSize},
	} {
		e, err := query.Parse(c.e)
		if err != nil {
			t.Fatal(c.e, err)
		}
		if b, err := query.Eval(e, example(t)); err != error(c.want) || b.N != 0 || len(b.Rows) != 0 {
			t.Errorf("%s: %v %v, wanted %v", c.e, b, err, c.want)
		}
		if parts(e) == 1 || c.want == api.ErrNone {
			if b, err := query.Eval(e, bag.Catalog{}); err != error(api.ErrNone) || b.N != 0 || len(b.Rows) != 0 {
				t.Errorf("%s over nothing: %v %v", c.e, b, err)
			}
		}
	}
	// a lattice may be called so, but can't be asked for
	for _, s := range []string{"fill", "whole"} {
		if b, err := query.Eval(name(s), example(t)); err != error(api.ErrShape) || b.N != 0 || len(b.Rows) != 0 {
			t.Errorf("%s: %v %v", s, b, err)
		}
	}
}

// greatest number that goes into both.
func greatest(a, b api.Int) api.Int {
	g, _, _ := big.Gcd(a, b)
	return g
}

// plain: the value of an expression over lattices each of which has multiples of one number in each place: place by place the number of which it has all multiples.
func plain(e api.Expr, of map[string][]api.Int, n int) []api.Int {
	out := make([]api.Int, n)
	var l [][]api.Int
	for _, a := range e.A {
		l = append(l, plain(a, of, n))
	}
	for at := range out {
		switch e.Kind {
		case api.Called:
			out[at] = of[e.S][at]
		case api.Whole:
			out[at] = big.Of(1)
		case api.Fill:
			if !big.Zero(l[0][at]) {
				out[at] = big.Of(1)
			}
		case api.Sum:
			out[at] = greatest(l[0][at], l[1][at])
		case api.Meet:
			if a, b := l[0][at], l[1][at]; !big.Zero(a) && !big.Zero(b) {
				out[at], _, _ = big.Div(big.Mul(a, b), greatest(a, b))
			}
		}
	}
	return out
}

// L3: drawn expressions over such lattices, worked out place by place.
func TestPlaceByPlace(t *testing.T) {
	r := rand.New(rand.NewPCG(11, 4))
	names := []string{"a", "b", "c", "d", "e", "f", "g", "h"}
	for range 3000 {
		n := 1 + r.IntN(api.MaxDim)
		of := map[string][]api.Int{}
		var l []api.Named
		for _, s := range names {
			x := api.Named{Name: s, N: n}
			of[s] = make([]api.Int, n)
			for at := range n {
				v := make([]int, n)
				v[at] = []int{0, r.IntN(13), r.IntN(1000)}[r.IntN(3)]
				of[s][at] = big.Of(v[at])
				x.Gens = append(x.Gens, v)
			}
			l = append(l, x)
		}
		e := drawnFit(r, names, []int{n})
		want := api.Basis{N: n}
		for at, m := range plain(e, of, n) {
			if v := vec.Of(make([]int, n)); !big.Zero(m) {
				v[at] = m
				want.Rows = append(want.Rows, v)
			}
		}
		b, err := query.Eval(e, catalog(t, l...))
		if err != nil || b.N != n || text(b) != text(want) {
			t.Fatalf("%v over %v: %s %v, wanted %s", e, l, text(b), err, text(want))
		}
	}
}

// drawnLattices: some by names, of any generators.
func drawnLattices(r *rand.Rand, names []string, n int) []api.Named {
	var l []api.Named
	for _, s := range names {
		x := api.Named{Name: s, N: n}
		for range r.IntN(api.MaxGens + 1) {
			v := make([]int, n)
			for at := range v {
				v[at] = []int{0, r.IntN(7) - 3, r.IntN(1999) - 999}[r.IntN(3)]
			}
			x.Gens = append(x.Gens, v)
		}
		l = append(l, x)
	}
	return l
}

// L3: of any lattices: each value is a basis; it is what its parts' values make, and lies to them as it should (W2).
func TestOfParts(t *testing.T) {
	r := rand.New(rand.NewPCG(11, 5))
	names := []string{"a", "b", "c", "d"}
	for range 500 {
		n := 1 + r.IntN(api.MaxDim)
		c := catalog(t, drawnLattices(r, names, n)...)
		e := drawnFit(r, names, []int{n})
		b, err := query.Eval(e, c)
		if err != nil || b.N != n || lattice.Check(b) != nil {
			t.Fatalf("%v: %v %v", e, b, err)
		}
		for i := range e.A {
			part, err := query.Eval(e.A[i], c)
			if err != nil {
				t.Fatal(err)
			}
			small, great := part, b
			if e.Kind == api.Meet {
				small, great = b, part
			}
			if in, err := lattice.Inside(small, great); err != nil || !in {
				t.Fatalf("%v: %s, its part %s: %v", e, text(b), text(part), err)
			}
		}
		if want := valueOf(t, e, c); text(b) != want {
			t.Fatalf("%v: %s, wanted %s", e, text(b), want)
		}
	}
}

// valueOf: the text of what the lattices' calls make of an expression's parts.
func valueOf(t *testing.T, e api.Expr, c bag.Catalog) string {
	t.Helper()
	var l []api.Basis
	for _, a := range e.A {
		b, err := query.Eval(a, c)
		if err != nil {
			t.Fatal(err)
		}
		l = append(l, b)
	}
	var out api.Basis
	var err error
	switch e.Kind {
	case api.Called:
		var x api.Named
		if x, err = c.Find(e.S); err == nil {
			out, err = bag.Basis(x)
		}
	case api.Sum:
		out, err = lattice.Sum(l[0], l[1])
	case api.Meet:
		out, err = lattice.Meet(l[0], l[1])
	case api.Fill:
		out, err = lattice.Fill(l[0])
	case api.Whole:
		out, err = lattice.Whole(e.N)
	}
	if err != nil {
		t.Fatal(err)
	}
	return text(out)
}

// Z1: the greatest that may be asked.
func TestGreatestAsked(t *testing.T) {
	r := rand.New(rand.NewPCG(11, 6))
	names := []string{"a", "b", "c", "d", "e", "f", "g", "h"}
	for range 20 {
		var l []api.Named
		for _, s := range names {
			x := api.Named{Name: s, N: api.MaxDim}
			for range api.MaxDim {
				x.Gens = append(x.Gens, []int{r.IntN(1999) - 999, r.IntN(1999) - 999, r.IntN(1999) - 999, r.IntN(1999) - 999})
			}
			l = append(l, x)
		}
		e := meet(meet(meet(name("a"), name("b")), meet(name("c"), name("d"))), meet(meet(name("e"), name("f")), meet(name("g"), name("h"))))
		b, err := query.Eval(e, catalog(t, l...))
		if err != nil || lattice.Check(b) != nil || len(b.Rows) != api.MaxDim {
			t.Fatalf("%v %v", b, err)
		}
		for _, x := range l {
			part, _ := bag.Basis(x)
			if in, err := lattice.Inside(b, part); err != nil || !in {
				t.Fatalf("%s isn't in %s: %v", text(b), text(part), err)
			}
		}
	}
}
