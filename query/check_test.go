package query_test

import (
	"math"
	"testing"

	"basiskeep/api"
	"basiskeep/query"
)

// L1: what an expression is.
func TestRight(t *testing.T) {
	for _, e := range []api.Expr{
		name("a"), name("a2345678"), name("z9"), name("fil"), name("fill1"), name("whole1"), name("wholes"), name("filll"),
		whole(1), whole(2), whole(3), whole(4),
		fill(name("a")), fill(whole(1)), fill(fill(name("a"))),
		sum(name("a"), name("a")), meet(whole(1), whole(4)), sum(fill(name("a")), meet(name("b"), whole(2))),
		{Kind: api.Called, S: "a", A: []api.Expr{}},
		{Kind: api.Whole, N: 1, A: []api.Expr{}},
	} {
		if err := query.Check(e); err != nil {
			t.Errorf("%v: %v", e, err)
		}
	}
}

// shapeless: what is no expression, of each kind, and of none.
func shapeless() []api.Expr {
	a, none := name("a"), api.Expr{}
	return []api.Expr{
		none,
		{Kind: -1, S: "a"}, {Kind: 6, N: 1}, {Kind: 6, S: "a"}, {S: "a"}, {N: 1}, {A: []api.Expr{a}}, {A: []api.Expr{a, a}},
		{Kind: math.MinInt64}, {Kind: math.MaxInt64, A: []api.Expr{a}},
		name(""), name("A"), name("1"), name("a b"), name("ninebytes"), name("fill"), name("whole"), name("fill a"), name("whole 1"), name("(a + b)"), name("a\n"), name("é"),
		{Kind: api.Called, S: "a", N: 1}, {Kind: api.Called, S: "a", N: -1}, {Kind: api.Called, S: "a", A: []api.Expr{a}}, {Kind: api.Called, S: "a", A: []api.Expr{none}},
		{Kind: api.Called}, {Kind: api.Called, A: []api.Expr{a}},
		whole(0), whole(-1), whole(5), whole(math.MinInt64), whole(math.MaxInt64),
		{Kind: api.Whole, N: 1, S: "a"}, {Kind: api.Whole, N: 1, S: " "}, {Kind: api.Whole, N: 1, A: []api.Expr{a}}, {Kind: api.Whole, N: 1, A: []api.Expr{none}},
		{Kind: api.Fill}, {Kind: api.Fill, A: []api.Expr{}}, {Kind: api.Fill, A: []api.Expr{a, a}}, {Kind: api.Fill, A: []api.Expr{none}},
		{Kind: api.Fill, A: []api.Expr{a}, N: 1}, {Kind: api.Fill, A: []api.Expr{a}, S: "a"}, {Kind: api.Fill, S: "a"},
		{Kind: api.Sum}, {Kind: api.Sum, A: []api.Expr{a}}, {Kind: api.Sum, A: []api.Expr{a, a, a}}, {Kind: api.Sum, A: []api.Expr{a, none}}, {Kind: api.Sum, A: []api.Expr{none, a}},
		{Kind: api.Sum, A: []api.Expr{a, a}, N: 1}, {Kind: api.Sum, A: []api.Expr{a, a}, S: "+"},
		{Kind: api.Meet}, {Kind: api.Meet, A: []api.Expr{a}}, {Kind: api.Meet, A: []api.Expr{a, a, a}}, {Kind: api.Meet, A: []api.Expr{a, none}}, {Kind: api.Meet, A: []api.Expr{none, a}},
		{Kind: api.Meet, A: []api.Expr{a, a}, N: -1}, {Kind: api.Meet, A: []api.Expr{a, a}, S: "a"},
	}
}

// L1: what is none, alone and in others.
func TestShapeless(t *testing.T) {
	for _, e := range shapeless() {
		wrong(t, e, api.ErrShape)
		wrong(t, fill(e), api.ErrShape)
		wrong(t, sum(e, name("a")), api.ErrShape)
		wrong(t, sum(name("a"), e), api.ErrShape)
		wrong(t, meet(meet(name("a"), fill(e)), whole(2)), api.ErrShape)
		wrong(t, fills(4, e), api.ErrShape)
		if t.Failed() {
			t.Fatalf("%v", e)
		}
	}
}

// L1: a name that stands nowhere is told behind what is wrong with the shape.
func TestShapeAheadOfNone(t *testing.T) {
	wrong(t, sum(name("nowhere"), whole(0)), api.ErrShape)
	wrong(t, sum(sum(whole(1), whole(2)), name("")), api.ErrShape)
}

// L1: up to MaxDeep, itself the first, and no deeper, on whichever side.
func TestDeep(t *testing.T) {
	for _, leaf := range []api.Expr{name("a"), whole(3)} {
		if err := query.Check(fills(api.MaxDeep-1, leaf)); err != nil {
			t.Error(err)
		}
		wrong(t, fills(api.MaxDeep, leaf), api.ErrMany)
		wrong(t, fills(100, leaf), api.ErrMany)
		left, right := leaf, leaf
		for deep := 2; deep <= 10; deep++ {
			left, right = sum(left, leaf), meet(leaf, right)
			if deep <= api.MaxDeep {
				if query.Check(left) != nil || query.Check(right) != nil {
					t.Errorf("%d deep: %v, %v", deep, query.Check(left), query.Check(right))
				}
				continue
			}
			wrong(t, left, api.ErrMany)
			wrong(t, right, api.ErrMany)
		}
	}
}

// L1: up to MaxParts, itself counted, and no more.
func TestParts(t *testing.T) {
	if err := query.Check(twenty()); err != nil || parts(twenty()) != api.MaxParts {
		t.Errorf("%d parts: %v", parts(twenty()), err)
	}
	wrong(t, fill(twenty()), api.ErrMany)
	more := twenty()
	more.A[1].A[1].A[0] = fill(more.A[1].A[1].A[0])
	wrong(t, more, api.ErrMany)
	if err := query.Check(even(4)); err != nil {
		t.Error(err)
	}
	wrong(t, even(5), api.ErrMany)
	wrong(t, even(6), api.ErrMany)
}

// L1: too many, or too deep, is told ahead of all else that is wrong.
func TestManyAheadOfShape(t *testing.T) {
	for kind := -1; kind <= 7; kind++ {
		for _, many := range []int{api.MaxParts - 1, api.MaxParts, 1000} {
			want := api.ErrMany
			if many < api.MaxParts {
				want = api.ErrShape
			}
			wrong(t, api.Expr{Kind: kind, N: 9, S: "A", A: make([]api.Expr, many)}, want)
			wrong(t, api.Expr{Kind: kind, A: make([]api.Expr, many)}, want)
		}
	}
	for _, e := range shapeless() {
		wrong(t, fills(api.MaxDeep, e), api.ErrMany)
	}
	deep := api.Expr{}
	for range api.MaxDeep {
		deep = api.Expr{S: "?", A: []api.Expr{deep}}
	}
	wrong(t, deep, api.ErrMany)
	wrong(t, deep.A[0], api.ErrShape)
	wrong(t, sum(api.Expr{}, deep), api.ErrMany)
	wrong(t, api.Expr{Kind: 9, A: []api.Expr{{}, deep}}, api.ErrMany)
	// five rows of three: each is few enough, all are not
	row := api.Expr{A: make([]api.Expr, 3)}
	wrong(t, api.Expr{A: []api.Expr{row, row, row, row, row}}, api.ErrMany)
	wrong(t, api.Expr{A: []api.Expr{row, row, row, row}}, api.ErrShape)
}

// Z1: every call ends: of expressions that stand in themselves, and of very long lists.
func TestEndless(t *testing.T) {
	one := make([]api.Expr, 1)
	one[0] = api.Expr{Kind: api.Fill, A: one}
	wrong(t, one[0], api.ErrMany)
	two := make([]api.Expr, 2)
	two[0] = api.Expr{Kind: api.Sum, A: two}
	two[1] = two[0]
	wrong(t, two[0], api.ErrMany)
	wrong(t, sum(name("a"), two[1]), api.ErrMany)
	long := make([]api.Expr, 1<<16)
	for i := range long {
		long[i] = api.Expr{Kind: api.Meet, A: long}
	}
	for range 1000 {
		wrong(t, long[0], api.ErrMany)
	}
}
