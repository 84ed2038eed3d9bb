package query_test

import (
	"math/rand/v2"
	"regexp"
	"slices"
	"strings"
	"testing"

	"basiskeep/api"
	"basiskeep/bag"
	"basiskeep/query"
	"basiskeep/vec"
)

func name(s string) api.Expr      { return api.Expr{Kind: api.Called, S: s} }
func sum(a, b api.Expr) api.Expr  { return api.Expr{Kind: api.Sum, A: []api.Expr{a, b}} }
func meet(a, b api.Expr) api.Expr { return api.Expr{Kind: api.Meet, A: []api.Expr{a, b}} }
func fill(a api.Expr) api.Expr    { return api.Expr{Kind: api.Fill, A: []api.Expr{a}} }
func whole(n int) api.Expr        { return api.Expr{Kind: api.Whole, N: n} }

// fills: so many, one in the other, around an expression.
func fills(many int, e api.Expr) api.Expr {
	for range many {
		e = fill(e)
	}
	return e
}

// even: two and two, one in the other: an expression of 2^levels - 1 parts.
func even(levels int) api.Expr {
	if levels == 1 {
		return name("a")
	}
	return sum(even(levels-1), even(levels-1))
}

// twenty: an expression of MaxParts parts: 15, three in the place of a name, and two fills.
func twenty() api.Expr {
	e := even(4)
	e.A[0].A[0].A[0] = meet(name("b"), fill(name("c")))
	e.A[1].A[1].A[1] = fill(whole(4))
	e.A[1].A[0].A[0] = fill(name("d"))
	return e
}

// alike: the same expressions, an empty list as good as none?
func alike(a, b api.Expr) bool {
	return a.Kind == b.Kind && a.N == b.N && a.S == b.S && slices.EqualFunc(a.A, b.A, alike)
}

// wrong: every call answers that error of an expression, and nothing else.
func wrong(t *testing.T, e api.Expr, want api.Errno) {
	t.Helper()
	if err := query.Check(e); err != error(want) {
		t.Errorf("Check: %v, wanted %v", err, want)
	}
	if s, err := query.Text(e); err != error(want) || s != "" {
		t.Errorf("Text: %q %v, wanted %v", s, err, want)
	}
	if b, err := query.Eval(e, bag.Catalog{}); err != error(want) || b.N != 0 || len(b.Rows) != 0 {
		t.Errorf("Eval: %v %v, wanted %v", b, err, want)
	}
}

// unread: a text is no expression's.
func unread(t *testing.T, s string) {
	t.Helper()
	if e, err := query.Parse(s); err != error(api.ErrText) || !alike(e, api.Expr{}) {
		t.Errorf("Parse(%.80q): %v %v", s, e, err)
	}
}

// reread: an expression has that text, and is read from it.
func reread(t *testing.T, e api.Expr, want string) {
	t.Helper()
	if err := query.Check(e); err != nil {
		t.Errorf("Check of %s: %v", want, err)
	}
	s, err := query.Text(e)
	if err != nil || s != want {
		t.Errorf("Text: %q %v, wanted %q", s, err, want)
	}
	if x, err := query.Parse(want); err != nil || !alike(x, e) {
		t.Errorf("Parse(%q): %v %v, wanted %v", want, x, err, e)
	}
}

// catalog behind operations, all of which may be done.
func catalog(t *testing.T, lattices ...api.Named) bag.Catalog {
	t.Helper()
	var c bag.Catalog
	var err error
	for _, x := range lattices {
		if c, err = c.Apply(api.Op{Kind: api.Create, Name: x.Name, N: x.N}); err != nil {
			t.Fatal(x, err)
		}
		for _, v := range x.Gens {
			if c, err = c.Apply(api.Op{Kind: api.Put, Name: x.Name, V: v}); err != nil {
				t.Fatal(x, err)
			}
		}
	}
	return c
}

// text of a basis.
func text(b api.Basis) string {
	var l []string
	for _, v := range b.Rows {
		l = append(l, vec.Text(v))
	}
	return strings.Join(l, " ")
}

// drawn: an expression that is one, of names and sizes among these, no deeper than so.
func drawn(r *rand.Rand, deep int, names []string, sizes []int) api.Expr {
	kind := 1 + r.IntN(5)
	if deep == 1 {
		kind = []int{api.Called, api.Whole}[r.IntN(2)]
	}
	switch kind {
	case api.Called:
		return name(names[r.IntN(len(names))])
	case api.Whole:
		return whole(sizes[r.IntN(len(sizes))])
	case api.Fill:
		return fill(drawn(r, deep-1, names, sizes))
	}
	return api.Expr{Kind: kind, A: []api.Expr{drawn(r, deep-1, names, sizes), drawn(r, deep-1, names, sizes)}}
}

// drawnFit: one that has no more than MaxParts parts, too.
func drawnFit(r *rand.Rand, names []string, sizes []int) api.Expr {
	for {
		if e := drawn(r, api.MaxDeep, names, sizes); parts(e) <= api.MaxParts {
			return e
		}
	}
}

// parts of an expression, itself counted.
func parts(e api.Expr) int {
	many := 1
	for _, a := range e.A {
		many += parts(a)
	}
	return many
}

var (
	words   = regexp.MustCompile(`whole [1-4]\b|[a-z0-9]+`)
	reduced = regexp.MustCompile(`\(([A-Z]) [+&] ([A-Z])\)|fill ([A-Z])`)
)

// isText: is it an expression's text? Told another way: what is one by itself becomes 'A', what is made of such a capital the next one, until nothing changes; so the capital that is left is how deep it is.
func isText(s string) bool {
	if strings.ContainsFunc(s, func(r rune) bool { return r >= 'A' && r <= 'Z' }) {
		return false
	}
	many := strings.Count(s, "+") + strings.Count(s, "&")
	s = words.ReplaceAllStringFunc(s, func(w string) string {
		switch {
		case w == "fill":
			many++
			return w
		case strings.HasPrefix(w, "whole "), w != "whole" && len(w) <= 8 && w[0] > '9':
			many++
			return "A"
		}
		return w
	})
	for {
		next := reduced.ReplaceAllStringFunc(s, func(w string) string {
			deep := byte(0)
			for _, b := range []byte(w) {
				if b >= 'A' && b <= 'Z' {
					deep = max(deep, b)
				}
			}
			return string([]byte{min(deep+1, 'Z')})
		})
		if next == s {
			return many <= 20 && len(s) == 1 && s[0] >= 'A' && s[0] <= 'F'
		}
		s = next
	}
}
