package bag

import (
	"slices"
	"sort"

	"basiskeep/api"
)

// Catalog of lattices, by rising names. It is never changed: what is done to it makes another one.
type Catalog struct {
	// catalogs share lattices and their generators, so none of these is ever written into or handed out
	all []api.Named
}

// Lattices of a catalog, by rising names.
func (c Catalog) Lattices() []api.Named {
	out := make([]api.Named, len(c.all))
	for i := range len(c.all) {
		out[i] = copied(c.all[i])
	}
	return out
}

// copied: the same lattice, in memory of its own.
func copied(x api.Named) api.Named {
	gens := make([][]int, len(x.Gens))
	for i := range len(x.Gens) {
		gens[i] = slices.Clone(x.Gens[i])
	}
	x.Gens = gens
	return x
}

// Find a lattice.
func (c Catalog) Find(name string) (api.Named, error) {
	at, is := c.place(name)
	if !is {
		return api.Named{}, api.ErrNone
	}
	return copied(c.all[at]), nil
}

// place of a name among the rising ones; false: no lattice is called so, but it would stand there.
func (c Catalog) place(name string) (int, bool) {
	at := sort.Search(len(c.all), func(i int) bool { return c.all[i].Name >= name })
	return at, at < len(c.all) && c.all[at].Name == name
}

// Apply an operation: the catalog behind it.
func (c Catalog) Apply(o api.Op) (Catalog, error) {
	if !shaped(o) {
		return Catalog{}, api.ErrShape
	}
	if o.Kind == api.Create {
		return c.create(o.Name, o.N)
	}
	at, is := c.place(o.Name)
	if !is {
		return Catalog{}, api.ErrNone
	}
	if o.Kind == api.Drop {
		return c.drop(at), nil
	}
	if err := checkGen(o.V, c.all[at].N); err != nil {
		return Catalog{}, err
	}
	if o.Kind == api.Put {
		return c.put(at, o.V)
	}
	return c.take(at, o.V)
}

// shaped: has an operation a name, a kind, and nothing that its kind has no use for?
func shaped(o api.Op) bool {
	if !Name(o.Name) {
		return false
	}
	switch o.Kind {
	case api.Create:
		return len(o.V) == 0
	case api.Drop:
		return o.N == 0 && len(o.V) == 0
	case api.Put, api.Take:
		return o.N == 0
	}
	return false
}

// create a lattice without generators.
func (c Catalog) create(name string, n int) (Catalog, error) {
	if !size(n) {
		return Catalog{}, api.ErrBound
	}
	at, is := c.place(name)
	if is {
		return Catalog{}, api.ErrExist
	}
	if len(c.all) >= api.MaxNames {
		return Catalog{}, api.ErrMany
	}
	made := api.Named{Name: name, N: n}
	return Catalog{slices.Concat(c.all[:at], []api.Named{made}, c.all[at:])}, nil
}

// drop the lattice at that place.
func (c Catalog) drop(at int) Catalog {
	return Catalog{slices.Concat(c.all[:at], c.all[at+1:])}
}

// put a generator behind the others of the lattice at that place.
func (c Catalog) put(at int, v []int) (Catalog, error) {
	gens := c.all[at].Gens
	if len(gens) >= api.MaxGens {
		return Catalog{}, api.ErrMany
	}
	return c.with(at, slices.Concat(gens, [][]int{slices.Clone(v)})), nil
}

// take the first generator that is this one from the lattice at that place.
func (c Catalog) take(at int, v []int) (Catalog, error) {
	gens := c.all[at].Gens
	i := slices.IndexFunc(gens, func(gen []int) bool { return slices.Equal(gen, v) })
	if i < 0 {
		return Catalog{}, api.ErrNone
	}
	return c.with(at, slices.Concat(gens[:i], gens[i+1:])), nil
}

// with: the lattice at that place has these generators instead.
func (c Catalog) with(at int, gens [][]int) Catalog {
	all := slices.Clone(c.all)
	all[at].Gens = gens
	return Catalog{all}
}
