package query_test

import (
	"slices"
	"testing"

	"basiskeep/api"
	"basiskeep/query"
)

// behind: the same expression, with what isn't to be read behind each list.
func behind(e api.Expr) api.Expr {
	l := make([]api.Expr, 0, len(e.A)+30)
	for _, a := range e.A {
		l = append(l, behind(a))
	}
	full := l[:cap(l)]
	for i := len(l); i < len(full); i++ {
		full[i] = api.Expr{Kind: 77, S: "behind", A: full}
	}
	e.A = l
	return e
}

// untouched: is all as behind made it?
func untouched(e api.Expr, was api.Expr) bool {
	full := e.A[:cap(e.A)]
	for i := len(e.A); i < len(full); i++ {
		if full[i].Kind != 77 || full[i].S != "behind" || full[i].N != 0 {
			return false
		}
	}
	return e.Kind == was.Kind && e.N == was.N && e.S == was.S && slices.EqualFunc(e.A, was.A, untouched)
}

// Z2: lists that are handed in aren't written into, nor is what stands behind them read.
func TestHandedIn(t *testing.T) {
	c := example(t)
	for _, was := range []api.Expr{
		name("a"), whole(2), fill(name("a")), sum(name("a"), name("b")), fills(5, name("c")),
		meet(sum(name("a"), fill(name("b"))), meet(whole(2), name("e"))), twenty(),
		{}, {Kind: api.Fill}, {Kind: api.Sum, A: []api.Expr{name("a")}}, sum(name("a"), name("c")), even(5),
	} {
		e := behind(was)
		if got, want := query.Check(e), query.Check(was); got != want {
			t.Errorf("%v: %v, wanted %v", was, got, want)
		}
		s, err := query.Text(e)
		if want, wrong := query.Text(was); s != want || err != wrong {
			t.Errorf("%v: %q %v, wanted %q %v", was, s, err, want, wrong)
		}
		b, err := query.Eval(e, c)
		if want, wrong := query.Eval(was, c); text(b) != text(want) || err != wrong {
			t.Errorf("%v: %v %v, wanted %v %v", was, b, err, want, wrong)
		}
		if !untouched(e, was) {
			t.Errorf("%v: it is written into", was)
		}
	}
}

// spoil all memory of an expression's lists.
func spoil(e api.Expr) {
	for _, a := range e.A {
		spoil(a)
	}
	l := e.A[:cap(e.A)]
	for i := range l {
		l[i] = api.Expr{Kind: 99, S: "spoilt"}
	}
}

// Z2: what Parse answers is the caller's, and no two lists of it share memory.
func TestReadFresh(t *testing.T) {
	const s = "((a + (a + b)) & (fill a + (a + b)))"
	for side := range 2 {
		e, err := query.Parse(s)
		if err != nil {
			t.Fatal(err)
		}
		again, _ := query.Parse(s)
		other, want := e.A[1-side], again.A[1-side]
		spoil(e.A[side])
		if !alike(other, want) {
			t.Errorf("%v, wanted %v", other, want)
		}
		spoil(e)
		if got, err := query.Text(again); err != nil || got != s {
			t.Errorf("%s %v", got, err)
		}
	}
}

// spoilBasis: all memory of its rows.
func spoilBasis(b api.Basis) {
	rows := b.Rows[:cap(b.Rows)]
	for i := range rows {
		v := rows[i][:cap(rows[i])]
		for j := range v {
			limbs := v[j].L[:cap(v[j].L)]
			for k := range limbs {
				limbs[k] = 77
			}
			v[j] = api.Int{Neg: true, L: []uint32{55}}
		}
		rows[i] = nil
	}
}

// Z2: what Eval answers is the caller's, and hangs on its arguments alone.
func TestValueFresh(t *testing.T) {
	c := example(t)
	for _, s := range []string{"a", "c", "(a + a)", "(a & b)", "(b & b)", "fill c", "fill a", "whole 3", "(a + e)", "(c & whole 3)"} {
		e, err := query.Parse(s)
		if err != nil {
			t.Fatal(err)
		}
		first, _ := query.Eval(e, c)
		second, _ := query.Eval(e, c)
		want := text(second)
		spoilBasis(first)
		third, err := query.Eval(e, c)
		if text(second) != want || text(third) != want || err != nil {
			t.Errorf("%s: %s, %s %v, wanted %s", s, text(second), text(third), err, want)
		}
	}
}

// Z2: no two numbers of a value share memory.
func TestValueApart(t *testing.T) {
	c := example(t)
	for _, s := range []string{"a", "b", "c", "(a + b)", "(a & b)", "fill c", "whole 4"} {
		e, _ := query.Parse(s)
		b, _ := query.Eval(e, c)
		for i := range b.Rows {
			for j := range b.Rows[i] {
				same, _ := query.Eval(e, c)
				want, _ := query.Eval(e, c)
				limbs := same.Rows[i][j].L[:cap(same.Rows[i][j].L)]
				for k := range limbs {
					limbs[k] = 77
				}
				want.Rows[i][j] = same.Rows[i][j]
				if text(same) != text(want) {
					t.Errorf("%s: numbers share memory with row %d, place %d", s, i, j)
				}
			}
		}
	}
}
