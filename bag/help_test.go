package bag_test

import (
	"math/rand/v2"
	"slices"
	"testing"

	"basiskeep/api"
	"basiskeep/bag"
	"basiskeep/vec"
)

// text of rows.
func text(m api.Mat) string {
	s := ""
	for _, v := range m {
		s += vec.Text(v)
	}
	return s
}

// one: told plainly what a lattice is, so that none and an empty list of generators are the same.
func one(x api.Named) string {
	s := x.Name + " " + string(rune('0'+x.N))
	for _, v := range x.Gens {
		s += " " + vec.Text(vec.Of(v))
	}
	return s
}

// told: what is in a catalog.
func told(c bag.Catalog) string { return toldAll(c.Lattices()) }

// toldAll of some lattices.
func toldAll(l []api.Named) string {
	s := ""
	for _, x := range l {
		s += one(x) + "; "
	}
	return s
}

// create, drop, put, take: operations.
func create(name string, n int) api.Op { return api.Op{Kind: api.Create, Name: name, N: n} }
func drop(name string) api.Op          { return api.Op{Kind: api.Drop, Name: name} }
func put(name string, v ...int) api.Op { return api.Op{Kind: api.Put, Name: name, V: v} }
func take(name string, v ...int) api.Op {
	return api.Op{Kind: api.Take, Name: name, V: v}
}

// after: the catalog behind operations, all of which may be done.
func after(t *testing.T, c bag.Catalog, ops ...api.Op) bag.Catalog {
	t.Helper()
	for _, o := range ops {
		next, err := c.Apply(o)
		if err != nil {
			t.Fatalf("%v over %s: %v", o, told(c), err)
		}
		c = next
	}
	return c
}

// refused: an operation isn't done, and the catalog stays.
func refused(t *testing.T, c bag.Catalog, o api.Op, want api.Errno) {
	t.Helper()
	before := told(c)
	next, err := c.Apply(o)
	if err != error(want) || told(next) != "" {
		t.Errorf("%v over %s: %s %v, wanted %v", o, before, told(next), err, want)
	}
	if told(c) != before {
		t.Errorf("%v: %s became %s", o, before, told(c))
	}
}

// drawnOp: any operation, most often one that may be done.
func drawnOp(r *rand.Rand) api.Op {
	names := []string{"a", "b", "b1", "ba", "c", "d", "e", "f", "zz9", "g0000000"}
	o := api.Op{Kind: []int{1, 1, 1, 2, 3, 3, 3, 3, 4}[r.IntN(9)], Name: names[r.IntN(len(names))]}
	if o.Kind == api.Create {
		o.N = 1 + r.IntN(2)
	}
	if o.Kind == api.Put || o.Kind == api.Take {
		o.V = make([]int, 1+r.IntN(2))
		for i := range o.V {
			o.V[i] = []int{0, r.IntN(3) - 1, 999, -999}[r.IntN(4)]
		}
	}
	switch r.IntN(30) {
	case 0:
		o.Kind = r.IntN(9) - 2
	case 1:
		o.Name = []string{"", "A", "1a", "a_", "toolongname"}[r.IntN(5)]
	case 2:
		o.N = r.IntN(9) - 2
	case 3:
		o.V = append(o.V, []int{0, 1000, -1000}[r.IntN(3)])
	}
	return o
}

// plain: lattices by names, as a map: another way to do the same.
type plain map[string]api.Named

// apply an operation to it; OK: it is done.
func (p plain) apply(o api.Op) api.Errno {
	x, is := p[o.Name]
	switch {
	case !bag.Name(o.Name), o.Kind < api.Create, o.Kind > api.Take,
		o.Kind != api.Create && o.N != 0, o.Kind <= api.Drop && len(o.V) > 0:
		return api.ErrShape
	case o.Kind == api.Create && (o.N < 1 || o.N > 4):
		return api.ErrBound
	case o.Kind == api.Create && is:
		return api.ErrExist
	case o.Kind == api.Create && len(p) == 8:
		return api.ErrMany
	case o.Kind == api.Create:
		p[o.Name] = api.Named{Name: o.Name, N: o.N}
		return api.OK
	case !is:
		return api.ErrNone
	case o.Kind == api.Drop:
		delete(p, o.Name)
		return api.OK
	case len(o.V) != x.N:
		return api.ErrSize
	case slices.Max(o.V) > 999, slices.Min(o.V) < -999:
		return api.ErrBound
	}
	if o.Kind == api.Put {
		if len(x.Gens) == 10 {
			return api.ErrMany
		}
		x.Gens = append(x.Gens, slices.Clone(o.V))
		p[o.Name] = x
		return api.OK
	}
	for i, v := range x.Gens {
		if slices.Equal(v, o.V) {
			x.Gens = slices.Delete(x.Gens, i, i+1)
			p[o.Name] = x
			return api.OK
		}
	}
	return api.ErrNone
}

// all of them, by rising names.
func (p plain) all() []api.Named {
	var names []string
	for name := range p {
		names = append(names, name)
	}
	slices.Sort(names)
	var out []api.Named
	for _, name := range names {
		out = append(out, p[name])
	}
	return out
}
