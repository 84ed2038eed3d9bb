package bag_test

import (
	"slices"
	"testing"

	"basiskeep/api"
	"basiskeep/bag"
)

// spoil all memory of a lattice's generators.
func spoil(x api.Named) {
	gens := x.Gens[:cap(x.Gens)]
	for i := range gens {
		for j := range gens[i][:cap(gens[i])] {
			gens[i][:cap(gens[i])][j] = 77
		}
		gens[i] = nil
	}
}

// full: a catalog with much in it.
func full(t *testing.T) bag.Catalog {
	return after(t, bag.Catalog{}, create("b", 2), put("b", 1, 2), put("b", 3, 4), put("b", 1, 2),
		create("a", 1), put("a", 5), create("c", 3), create("d", 4), put("d", 1, 2, 3, 4))
}

// Z2: what comes out is the caller's.
func TestAnswersFresh(t *testing.T) {
	c := full(t)
	want := told(c)
	for i := range c.Lattices() {
		l := c.Lattices()
		spoil(l[i])
		l[i] = api.Named{Name: "x", N: 9}
		if told(c) != want {
			t.Fatalf("Lattices: %s", told(c))
		}
	}
	l := c.Lattices()
	for i := range l {
		rest := toldAll(l[i+1:])
		for j, v := range l[i].Gens {
			behind := slices.Concat(l[i].Gens[j+1:]...)
			for k := range v[:cap(v)] {
				v[:cap(v)][k] = 77
			}
			if !slices.Equal(slices.Concat(l[i].Gens[j+1:]...), behind) {
				t.Fatalf("two generators share memory")
			}
		}
		spoil(l[i])
		if toldAll(l[i+1:]) != rest {
			t.Fatalf("two lattices share memory")
		}
	}
	for _, name := range []string{"a", "b", "c", "d"} {
		x, _ := c.Find(name)
		y, _ := c.Find(name)
		before := one(y)
		spoil(x)
		if told(c) != want || one(y) != before {
			t.Fatalf("Find: %s, %s", told(c), one(y))
		}
	}
}

// Z2: a vector that is handed in is neither kept nor written into, nor what stands behind it read.
func TestVectorNotKept(t *testing.T) {
	c := full(t)
	for _, kind := range []int{api.Put, api.Take} {
		v := []int{1, 2, 3, 1000}
		next, err := c.Apply(api.Op{Kind: kind, Name: "b", V: v[:2]})
		if err != nil || !slices.Equal(v, []int{1, 2, 3, 1000}) {
			t.Fatalf("%v, %v", v, err)
		}
		want := told(next)
		for i := range v {
			v[i] = 55
		}
		if told(next) != want || told(c) != told(full(t)) {
			t.Errorf("%s, wanted %s", told(next), want)
		}
	}
}

// Z2: a catalog may go several ways on, and none sees what the others do.
func TestBranches(t *testing.T) {
	c := full(t)
	want := told(c)
	var all []bag.Catalog
	for i := range 20 {
		next := after(t, c, put("b", i, 0))
		if i%2 == 0 {
			next = after(t, next, take("b", 1, 2))
		}
		if i%3 == 0 {
			next = after(t, next, drop("c"))
		}
		all = append(all, next)
	}
	for i, next := range all {
		x, _ := next.Find("b")
		if last := x.Gens[len(x.Gens)-1]; !slices.Equal(last, []int{i, 0}) {
			t.Errorf("%d: %s", i, told(next))
		}
	}
	if told(c) != want {
		t.Errorf("%s, wanted %s", told(c), want)
	}
}

// Z2: Check and Basis leave a named lattice as it is, and read no more of it.
func TestNamedStays(t *testing.T) {
	behind := [][]int{{4, 6, 1000}, {2, 4, 1000}, {1000, 1000}}
	x := api.Named{Name: "a", N: 2, Gens: [][]int{behind[0][:2], behind[1][:2], behind[2]}[:2]}
	before := slices.Concat(behind...)
	if err := bag.Check(x); err != nil {
		t.Error(err)
	}
	b, err := bag.Basis(x)
	again, _ := bag.Basis(x)
	if err != nil || text(b.Rows) != "(2 0)(0 2)" {
		t.Errorf("%v %v", b, err)
	}
	if !slices.Equal(slices.Concat(behind...), before) || !slices.Equal(x.Gens[:3][2], behind[2]) {
		t.Errorf("%v", x)
	}
	b.Rows[0][0].L[0] = 9
	b.Rows[1] = nil
	if text(again.Rows) != "(2 0)(0 2)" {
		t.Errorf("%v", again)
	}
}
