package bag_test

import (
	"math"
	"math/rand/v2"
	"strings"
	"testing"

	"basiskeep/api"
	"basiskeep/bag"
	"basiskeep/lattice"
	"basiskeep/vec"
)

// E1: every byte ahead and behind, and every length.
func TestName(t *testing.T) {
	const letters, digits = "abcdefghijklmnopqrstuvwxyz", "0123456789"
	for b := range 256 {
		s := string([]byte{byte(b)})
		letter, digit := strings.Contains(letters, s), strings.Contains(digits, s)
		if bag.Name(s) != letter || bag.Name(s+"a") != letter {
			t.Errorf("%q ahead: %v", s, bag.Name(s))
		}
		for _, ahead := range []string{"a", "z9", "q000000"} {
			if bag.Name(ahead+s) != (letter || digit) {
				t.Errorf("%q: %v", ahead+s, bag.Name(ahead+s))
			}
		}
		if bag.Name("a"+s+"b") != (letter || digit) {
			t.Errorf("%q: %v", "a"+s+"b", bag.Name("a"+s+"b"))
		}
	}
	for n := range 300 {
		if got, want := bag.Name(strings.Repeat("k", n)), n >= 1 && n <= api.MaxName; got != want {
			t.Errorf("%d bytes: %v", n, got)
		}
	}
	for _, s := range []string{"é", "aé", "a b", " a", "a ", "fill", "whole"} {
		if got, want := bag.Name(s), s == "fill" || s == "whole"; got != want {
			t.Errorf("%q: %v", s, got)
		}
	}
}

// named lattice.
func named(name string, n int, gens ...[]int) api.Named {
	return api.Named{Name: name, N: n, Gens: gens}
}

// times: the same generator so many times.
func times(many int, v ...int) [][]int {
	out := make([][]int, many)
	for i := range out {
		out[i] = v
	}
	return out
}

// E1: what may not be, and in which order that is told; E2: Basis says the same.
func TestWrongNamed(t *testing.T) {
	for _, c := range []struct {
		x    api.Named
		want api.Errno
	}{
		{api.Named{}, api.ErrShape},
		{named("", 1), api.ErrShape},
		{named("A", 1), api.ErrShape},
		{named("1", 0), api.ErrShape},
		{named("ninebytes", 1), api.ErrShape},
		{named("a b", 9, times(11, 1000)...), api.ErrShape},
		{named("a", 0), api.ErrBound},
		{named("a", -1), api.ErrBound},
		{named("a", 5), api.ErrBound},
		{named("a", math.MinInt64), api.ErrBound},
		{named("a", math.MaxInt64), api.ErrBound},
		{named("a", 0, times(11)...), api.ErrBound},
		{named("a", 5, []int{1, 2, 3, 4, 5}), api.ErrBound},
		{named("a", 1, times(11, 1)...), api.ErrMany},
		{named("a", 1, times(11, 1, 2)...), api.ErrMany},
		{named("a", 1, times(11, 1000)...), api.ErrMany},
		{named("a", 1, nil), api.ErrSize},
		{named("a", 1, []int{}), api.ErrSize},
		{named("a", 1, []int{1, 2}), api.ErrSize},
		{named("a", 2, []int{1}), api.ErrSize},
		{named("a", 2, []int{1000}), api.ErrSize},
		{named("a", 2, []int{1000, 1, 1}), api.ErrSize},
		{named("a", 2, []int{1, 1}, []int{1, 1, 1}), api.ErrSize},
		{named("a", 2, []int{1}, []int{1, 1000}), api.ErrSize},
		{named("a", 2, []int{1, 1000}, []int{1}), api.ErrBound},
		{named("a", 1, []int{1000}), api.ErrBound},
		{named("a", 1, []int{-1000}), api.ErrBound},
		{named("a", 4, []int{0, 0, 0, 1000}), api.ErrBound},
		{named("a", 4, []int{0, 0, -1000, 0}), api.ErrBound},
		{named("a", 1, []int{math.MaxInt64}), api.ErrBound},
		{named("a", 1, []int{math.MinInt64}), api.ErrBound},
		{named("a", 1, append(times(9, 5), []int{1000})...), api.ErrBound},
	} {
		if err := bag.Check(c.x); err != error(c.want) {
			t.Errorf("Check(%v): %v, wanted %v", c.x, err, c.want)
		}
		if b, err := bag.Basis(c.x); err != error(c.want) || b.N != 0 || len(b.Rows) != 0 {
			t.Errorf("Basis(%v): %v %v, wanted %v", c.x, b, err, c.want)
		}
	}
}

// E1, E2: what may be, and its basis.
func TestBasisExamples(t *testing.T) {
	for _, c := range []struct {
		x    api.Named
		want string
	}{
		{named("a", 1), ""},
		{named("a2345678", 4), ""},
		{api.Named{Name: "z", N: 2, Gens: [][]int{}}, ""},
		{named("a", 1, []int{0}), ""},
		{named("a", 2, []int{4, 6}, []int{2, 4}), "(2 0)(0 2)"},
		{named("a", 2, []int{0, 0}, []int{0, -999}), "(0 999)"},
		{named("a", 1, times(10, -999)...), "(999)"},
		{named("a", 1, []int{999}, []int{998}), "(1)"},
		{named("a", 3, []int{2, 4, 6}, []int{2, 4, 6}), "(2 4 6)"},
		{named("a", 4, []int{0, 0, 0, 5}, []int{0, 0, 7, 0}, []int{0, 3, 0, 0}, []int{-2, 0, 0, 0}), "(2 0 0 0)(0 3 0 0)(0 0 7 0)(0 0 0 5)"},
	} {
		if err := bag.Check(c.x); err != nil {
			t.Errorf("Check(%v): %v", c.x, err)
		}
		if b, err := bag.Basis(c.x); err != nil || b.N != c.x.N || text(b.Rows) != c.want {
			t.Errorf("Basis(%v): %v %v, wanted %s", c.x, b, err, c.want)
		}
	}
}

// E2: the basis of as many generators as may be: what putting them in one by one makes.
func TestBasis(t *testing.T) {
	r := rand.New(rand.NewPCG(5, 1))
	for range 300 {
		n := 1 + r.IntN(api.MaxDim)
		x := named("a", n)
		want, _ := lattice.New(n)
		for range r.IntN(api.MaxGens + 1) {
			v := make([]int, n)
			for at := range v {
				v[at] = []int{0, r.IntN(9) - 4, r.IntN(1999) - 999}[r.IntN(3)]
			}
			x.Gens = append(x.Gens, v)
			want, _ = lattice.Insert(want, vec.Of(v))
		}
		b, err := bag.Basis(x)
		if err != nil || b.N != n || text(b.Rows) != text(want.Rows) || lattice.Check(b) != nil {
			t.Fatalf("%v: %v %v, wanted %v", x, b, err, want)
		}
	}
}
