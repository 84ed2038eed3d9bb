package bag_test

import (
	"math/rand/v2"
	"testing"

	"basiskeep/api"
	"basiskeep/bag"
)

// E3: the zero value has nothing in it.
func TestEmpty(t *testing.T) {
	var c bag.Catalog
	if l := c.Lattices(); len(l) != 0 {
		t.Errorf("%v", l)
	}
	for _, name := range []string{"a", "", "A", "toolongname"} {
		if x, err := c.Find(name); err != error(api.ErrNone) || x.Name != "" || x.N != 0 || len(x.Gens) != 0 {
			t.Errorf("%q: %v %v", name, x, err)
		}
	}
}

// E3: the document's example, operation by operation.
func TestExample(t *testing.T) {
	c := after(t, bag.Catalog{}, create("a", 2), put("a", 4, 6), put("a", 2, 4))
	with := after(t, c, create("b", 2), put("b", 3, 0), put("b", 0, 5))
	if got := told(with); got != "a 2 (4 6) (2 4); b 2 (3 0) (0 5); " {
		t.Error(got)
	}
	if got := told(c); got != "a 2 (4 6) (2 4); " {
		t.Error(got)
	}
	if got := told(after(t, with, create("c", 3), put("c", 2, 4, 6), take("a", 2, 4))); got != "a 2 (4 6); b 2 (3 0) (0 5); c 3 (2 4 6); " {
		t.Error(got)
	}
	refused(t, with, put("a", 1, 2, 3), api.ErrSize)
	refused(t, with, put("a", 1000, 0), api.ErrBound)
	refused(t, with, put("z", 1), api.ErrNone)
	refused(t, with, create("a", 2), api.ErrExist)
}

// E3: rising names, as bytes, in whichever order they were made.
func TestRising(t *testing.T) {
	names := []string{"b", "a", "ab", "a0", "aa", "b9", "a00", "z"}
	for turn := range names {
		var c bag.Catalog
		for i := range names {
			c = after(t, c, create(names[(i*3+turn)%len(names)], 1))
		}
		if got := told(c); got != "a 1; a0 1; a00 1; aa 1; ab 1; b 1; b9 1; z 1; " {
			t.Error(got)
		}
		for _, name := range names {
			if x, err := c.Find(name); err != nil || one(x) != name+" 1" {
				t.Errorf("%s: %v %v", name, x, err)
			}
			left := after(t, c, drop(name))
			if _, err := left.Find(name); err != error(api.ErrNone) || len(left.Lattices()) != len(names)-1 {
				t.Errorf("%s: %s %v", name, told(left), err)
			}
		}
		for _, name := range []string{"", "0", "a000", "ac", "b0", "zz", "aaa"} {
			if x, err := c.Find(name); err != error(api.ErrNone) || one(x) != one(api.Named{}) {
				t.Errorf("%q: %v %v", name, x, err)
			}
		}
	}
}

// E3: an operation of a shape that may not be is told ahead of all else.
func TestShape(t *testing.T) {
	c := after(t, bag.Catalog{}, create("a", 1), put("a", 7))
	for _, o := range []api.Op{
		{},
		{Name: "a"},
		{Kind: 5, Name: "a"},
		{Kind: -1, Name: "a", V: []int{7}},
		create("", 1), create("A", 9), create("ninebytes", 1),
		drop(""), drop("1"), put("a b", 7), take("a-", 7),
		{Kind: api.Create, Name: "b", N: 1, V: []int{7}},
		{Kind: api.Create, Name: "b", N: 9, V: []int{0}},
		{Kind: api.Create, Name: "a", N: 1, V: []int{0}},
		{Kind: api.Drop, Name: "a", N: 1},
		{Kind: api.Drop, Name: "a", N: -1},
		{Kind: api.Drop, Name: "a", V: []int{7}},
		{Kind: api.Drop, Name: "z", V: []int{7}},
		{Kind: api.Put, Name: "a", N: 1, V: []int{7}},
		{Kind: api.Put, Name: "z", N: 1, V: []int{7}},
		{Kind: api.Take, Name: "a", N: 1, V: []int{7}},
		{Kind: api.Take, Name: "a", N: 1, V: []int{1000}},
	} {
		refused(t, c, o, api.ErrShape)
		refused(t, bag.Catalog{}, o, api.ErrShape)
	}
}

// E3, Z1: a list that is empty is as none.
func TestEmptyLists(t *testing.T) {
	c := after(t, bag.Catalog{}, api.Op{Kind: api.Create, Name: "a", N: 1, V: []int{}})
	if got := told(c); got != "a 1; " {
		t.Error(got)
	}
	if got := told(after(t, c, api.Op{Kind: api.Drop, Name: "a", V: []int{}})); got != "" {
		t.Error(got)
	}
}

// E3: Create: its bounds, one that is there, and no more than MaxNames.
func TestCreate(t *testing.T) {
	var c bag.Catalog
	for i := range api.MaxNames {
		name := string([]byte{'h' - byte(i)})
		for _, n := range []int{-1, 0, api.MaxDim + 1} {
			refused(t, c, create(name, n), api.ErrBound)
		}
		c = after(t, c, create(name, 1+i%4))
		refused(t, c, create(name, 1), api.ErrExist)
		refused(t, c, create(name, 0), api.ErrBound)
	}
	refused(t, c, create("i", 1), api.ErrMany)
	refused(t, c, create("a0", 4), api.ErrMany)
	refused(t, c, create("i", 5), api.ErrBound)
	refused(t, c, create("c", 1), api.ErrExist)
	if got := told(c); got != "a 4; b 3; c 2; d 1; e 4; f 3; g 2; h 1; " {
		t.Error(got)
	}
	if got := told(after(t, c, drop("d"), create("i", 1))); got != "a 4; b 3; c 2; e 4; f 3; g 2; h 1; i 1; " {
		t.Error(got)
	}
}

// E3: Drop, Put and Take of none.
func TestNone(t *testing.T) {
	for _, c := range []bag.Catalog{{}, after(t, bag.Catalog{}, create("b", 2))} {
		for _, name := range []string{"a", "b0", "c"} {
			refused(t, c, drop(name), api.ErrNone)
			refused(t, c, put(name, 1, 2), api.ErrNone)
			refused(t, c, put(name, 1000), api.ErrNone)
			refused(t, c, take(name, 1, 2), api.ErrNone)
			refused(t, c, take(name), api.ErrNone)
		}
	}
}

// E3: Put: what is wrong with a generator, its place behind the others, and no more than MaxGens.
func TestPut(t *testing.T) {
	c := after(t, bag.Catalog{}, create("a", 2), create("b", 2))
	for i := range api.MaxGens {
		refused(t, c, put("a"), api.ErrSize)
		refused(t, c, put("a", 1), api.ErrSize)
		refused(t, c, put("a", 1000, 1, 1), api.ErrSize)
		refused(t, c, put("a", 1, 1000), api.ErrBound)
		refused(t, c, put("a", -1000, 1), api.ErrBound)
		c = after(t, c, put("a", 999*(1-i%2*2), i/2))
	}
	if got := told(c); got != "a 2 (999 0) (-999 0) (999 1) (-999 1) (999 2) (-999 2) (999 3) (-999 3) (999 4) (-999 4); b 2; " {
		t.Error(got)
	}
	refused(t, c, put("a", 1, 1), api.ErrMany)
	refused(t, c, put("a", 999, 0), api.ErrMany)
	refused(t, c, put("a", 1), api.ErrSize)
	refused(t, c, put("a", 1, 1000), api.ErrBound)
	after(t, c, put("b", 1, 1))
}

// E3: Take: what is wrong with a generator, and the first one that is this one.
func TestTake(t *testing.T) {
	c := after(t, bag.Catalog{}, create("a", 2), create("b", 2))
	refused(t, c, take("a", 0, 0), api.ErrNone)
	c = after(t, c, put("a", 1, 2), put("a", 3, 4), put("a", 1, 2), put("a", 0, 0), put("b", 9, 9))
	refused(t, c, take("a"), api.ErrSize)
	refused(t, c, take("a", 1), api.ErrSize)
	refused(t, c, take("a", 1, 2, 0), api.ErrSize)
	refused(t, c, take("a", 1000, 2), api.ErrBound)
	refused(t, c, take("a", 2, 1), api.ErrNone)
	refused(t, c, take("a", 9, 9), api.ErrNone)
	for _, step := range []struct {
		o    api.Op
		want string
	}{
		{take("a", 1, 2), "a 2 (3 4) (1 2) (0 0); b 2 (9 9); "},
		{take("a", 0, 0), "a 2 (3 4) (1 2); b 2 (9 9); "},
		{take("b", 9, 9), "a 2 (3 4) (1 2); b 2; "},
		{take("a", 1, 2), "a 2 (3 4); b 2; "},
		{take("a", 3, 4), "a 2; b 2; "},
	} {
		c = after(t, c, step.o)
		if got := told(c); got != step.want {
			t.Errorf("%s, wanted %s", got, step.want)
		}
	}
	refused(t, c, take("a", 3, 4), api.ErrNone)
}

// E3: many operations, held against another way to do them; no catalog that was there before changes.
func TestOperations(t *testing.T) {
	r := rand.New(rand.NewPCG(5, 2))
	seen := map[api.Errno]int{}
	for range 150 {
		var c bag.Catalog
		p := plain{}
		var before []bag.Catalog
		var texts []string
		for range 120 {
			before, texts = append(before, c), append(texts, told(c))
			o := drawnOp(r)
			next, err := c.Apply(o)
			want := p.apply(o)
			seen[want]++
			if want == api.OK && err != nil || want != api.OK && err != error(want) {
				t.Fatalf("%v over %s: %v, wanted %v", o, told(c), err, want)
			}
			if err == nil {
				c = next
			}
			if got, want := told(c), toldAll(p.all()); got != want {
				t.Fatalf("%v: %s, wanted %s", o, got, want)
			}
			x, err := c.Find(o.Name)
			if y, is := p[o.Name]; is != (err == nil) || one(x) != one(y) {
				t.Fatalf("%s in %s: %v %v", o.Name, told(c), x, err)
			}
		}
		for i := range before {
			if told(before[i]) != texts[i] {
				t.Fatalf("%s became %s", texts[i], told(before[i]))
			}
		}
	}
	for e := range api.ErrExist + 1 {
		if seen[e] < 20 && e != api.ErrZero && e != api.ErrText {
			t.Errorf("%v comes %d times: too few to tell", e, seen[e])
		}
	}
}
