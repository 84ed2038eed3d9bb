package store_test

import (
	"fmt"
	"math/rand/v2"
	"testing"

	"basiskeep/api"
	"basiskeep/bag"
	"basiskeep/disk"
	"basiskeep/pack"
	"basiskeep/store"
)

// every bit: all writes are kept.
const every = ^uint64(0)

// made: a disk of n sectors.
func made(t *testing.T, n int) *disk.Disk {
	t.Helper()
	d, err := disk.New(n)
	if err != nil {
		t.Fatal(err)
	}
	return d
}

// opened: a store that may be opened.
func opened(t *testing.T, d *disk.Disk) *store.Store {
	t.Helper()
	s, err := store.Open(d)
	if err != nil || s == nil {
		t.Fatalf("Open: %v", err)
	}
	return s
}

// formatted: an empty store on a disk of n sectors.
func formatted(t *testing.T, n int) (*disk.Disk, *store.Store) {
	t.Helper()
	d := made(t, n)
	formats(t, d)
	return d, opened(t, d)
}

// formats a disk, which may not be refused.
func formats(t *testing.T, d *disk.Disk) {
	t.Helper()
	if err := store.Format(d); err != nil {
		t.Fatalf("Format: %v", err)
	}
}

// told: what is in a store.
func told(s *store.Store) string { return pack.Text(s.Catalog()) }

// is: a store has this catalog's text, and so much room.
func is(t *testing.T, s *store.Store, want string, room int) {
	t.Helper()
	if told(s) != want || s.Room() != room {
		t.Fatalf("%q, room %d, wanted %q, %d", told(s), s.Room(), want, room)
	}
}

// stays: a store has this, and it is there for good.
func stays(t *testing.T, d *disk.Disk, s *store.Store, want string, room int) {
	t.Helper()
	is(t, s, want, room)
	is(t, opened(t, d), want, room)
	d.Restart(0)
	is(t, opened(t, d), want, room)
}

// create, drop, put, take: operations.
func create(name string, n int) api.Op { return api.Op{Kind: api.Create, Name: name, N: n} }
func drop(name string) api.Op          { return api.Op{Kind: api.Drop, Name: name} }
func put(name string, v ...int) api.Op { return api.Op{Kind: api.Put, Name: name, V: v} }
func take(name string, v ...int) api.Op {
	return api.Op{Kind: api.Take, Name: name, V: v}
}

// turns: so many operations that may be done over a catalog: z is made and is dropped, in turn.
func turns(c bag.Catalog, many int) []api.Op {
	_, err := c.Find("z")
	at := 0
	if err == nil {
		at = 1
	}
	var l []api.Op
	for i := range many {
		l = append(l, []api.Op{create("z", 1), drop("z")}[(at+i)%2])
	}
	return l
}

// commits deeds, none of which may be refused.
func commits(t *testing.T, s *store.Store, deeds ...[]api.Op) {
	t.Helper()
	for _, ops := range deeds {
		if err := s.Commit(ops); err != nil {
			t.Fatalf("%v: %v", ops, err)
		}
	}
}

// lays the whole, which may not be refused.
func lays(t *testing.T, s *store.Store) {
	t.Helper()
	if err := s.Checkpoint(); err != nil {
		t.Fatalf("Checkpoint: %v", err)
	}
}

// sectors: all bytes of a disk.
func sectors(t *testing.T, d *disk.Disk) []string {
	t.Helper()
	var out []string
	for at := range d.Sectors() {
		s, err := d.Read(at)
		if err != nil {
			t.Fatal(err)
		}
		out = append(out, s)
	}
	return out
}

// lay sectors from a place on, for good.
func lay(t *testing.T, d *disk.Disk, from int, all ...string) {
	t.Helper()
	for i, s := range all {
		if err := d.Write(from+i, s); err != nil {
			t.Fatal(err)
		}
	}
	if err := d.Flush(); err != nil {
		t.Fatal(err)
	}
}

// copied: another disk with the same bytes.
func copied(t *testing.T, d *disk.Disk) *disk.Disk {
	t.Helper()
	next := made(t, d.Sectors())
	lay(t, next, 0, sectors(t, d)...)
	return next
}

// low: four bytes, the lowest first.
func low(n uint32) string { return string([]byte{byte(n), byte(n >> 8), byte(n >> 16), byte(n >> 24)}) }

// oSector, cSector: as a log has them (H1).
func oSector(number uint32, o api.Op) string {
	body, _ := pack.Op(o)
	return "o" + low(number) + string([]byte{byte(len(body))}) + body
}
func cSector(number, count uint32) string { return "c" + low(number) + "\x04" + low(count) }

// drawnOp: an operation, most often one that may be done.
func drawnOp(r *rand.Rand) api.Op {
	o := api.Op{Kind: []int{1, 1, 2, 3, 3, 3, 3, 4}[r.IntN(8)], Name: []string{"a", "b", "c", "d0"}[r.IntN(4)]}
	if o.Kind == api.Create {
		o.N = 1 + r.IntN(2)
	}
	for range 1 + r.IntN(2) {
		if o.Kind > api.Drop {
			o.V = append(o.V, []int{0, r.IntN(3) - 1, r.IntN(1999) - 999}[r.IntN(3)])
		}
	}
	if r.IntN(30) == 0 {
		o.N++
	}
	return o
}

// drawnDeed: up to so many operations that may be done one behind the other over a catalog, and what they make of it.
func drawnDeed(r *rand.Rand, c bag.Catalog, most int) ([]api.Op, bag.Catalog) {
	var ops []api.Op
	for range r.IntN(most + 1) {
		o := drawnOp(r)
		if next, err := c.Apply(o); err == nil {
			c, ops = next, append(ops, o)
		}
	}
	return ops, c
}

// full: a catalog's operations that has as long a text as may be, as deeds.
func full() [][]api.Op {
	var deeds [][]api.Op
	for i := range api.MaxNames {
		name := fmt.Sprint("abcdefg", i)
		deeds = append(deeds, []api.Op{create(name, api.MaxDim)})
		for range api.MaxGens {
			deeds[i] = append(deeds[i], put(name, -999, -999, -999, -999))
		}
	}
	return deeds
}
