package pack_test

import (
	"fmt"
	"math/rand/v2"
	"slices"
	"testing"

	"basiskeep/api"
	"basiskeep/bag"
	"basiskeep/pack"
)

// after: the catalog behind operations, all of which may be done.
func after(t *testing.T, ops ...api.Op) bag.Catalog {
	t.Helper()
	var c bag.Catalog
	for _, o := range ops {
		next, err := c.Apply(o)
		if err != nil {
			t.Fatalf("%v: %v", o, err)
		}
		c = next
	}
	return c
}

// create, put: operations.
func create(name string, n int) api.Op { return api.Op{Kind: api.Create, Name: name, N: n} }
func put(name string, v ...int) api.Op { return api.Op{Kind: api.Put, Name: name, V: v} }

// told: what is in a catalog, another way than Text.
func told(c bag.Catalog) string {
	s := ""
	for _, x := range c.Lattices() {
		s += fmt.Sprint(x.Name, x.N, x.Gens, "|")
	}
	return s
}

// same: are these operations the same, an empty list be nil or not?
func same(a, b api.Op) bool {
	return a.Kind == b.Kind && a.Name == b.Name && a.N == b.N && slices.Equal(a.V, b.V)
}

// nothing: is it the zero value?
func nothing(o api.Op) bool { return same(o, api.Op{}) }

// unread: a text is no catalog's.
func unread(t *testing.T, s string) {
	t.Helper()
	if c, err := pack.Parse(s); err != error(api.ErrText) || told(c) != "" {
		t.Errorf("Parse(%q): %s %v", s, told(c), err)
	}
}

// noOp: bytes are no operation's.
func noOp(t *testing.T, s string) {
	t.Helper()
	if o, err := pack.Unop(s); err != error(api.ErrText) || !nothing(o) {
		t.Errorf("Unop(%q): %v %v", s, o, err)
	}
}

// drawnNumber from -999 to 999, often an edge.
func drawnNumber(r *rand.Rand) int {
	return []int{0, -1, 9, -10, 99, 100, 255, 256, -256, 999, -999, r.IntN(1999) - 999}[r.IntN(12)]
}

// drawnName: a name, not always a short one.
func drawnName(r *rand.Rand) string {
	return []string{"a", "b", "b0", "ba", "z", "zz9", "abcdefgh", "g0000000", "q", "r2d2"}[r.IntN(10)]
}

// drawnVector of so many numbers.
func drawnVector(r *rand.Rand, n int) []int {
	v := make([]int, n)
	for i := range v {
		v[i] = drawnNumber(r)
	}
	return v
}

// drawnCatalog: any one.
func drawnCatalog(r *rand.Rand) bag.Catalog {
	var c bag.Catalog
	for range r.IntN(10) {
		name, n := drawnName(r), 1+r.IntN(4)
		next, err := c.Apply(create(name, n))
		for err == nil {
			c = next
			next, err = c.Apply(put(name, drawnVector(r, n)...))
			if r.IntN(5) == 0 {
				break
			}
		}
	}
	return c
}

// drawnOp that has bytes.
func drawnOp(r *rand.Rand) api.Op {
	return api.Op{Kind: 1 + r.IntN(4), Name: drawnName(r), N: r.IntN(5), V: drawnVector(r, r.IntN(5))}
}
