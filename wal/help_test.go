package wal_test

import (
	"fmt"
	"math/rand/v2"
	"testing"

	"basiskeep/api"
	"basiskeep/disk"
	"basiskeep/pack"
	"basiskeep/wal"
)

// every bit: all writes are kept.
const every = ^uint64(0)

// made: a disk of n sectors.
func made(t *testing.T, n int) *disk.Disk {
	t.Helper()
	d, err := disk.New(n)
	if err != nil {
		t.Fatal(err)
	}
	return d
}

// opened: a log that may be opened, and its deeds.
func opened(t *testing.T, d *disk.Disk, from, many, first int) (*wal.Log, [][]api.Op) {
	t.Helper()
	l, deeds, err := wal.Open(d, from, many, first)
	if err != nil || l == nil {
		t.Fatalf("Open(%d, %d, %d): %v", from, many, first, err)
	}
	return l, deeds
}

// told: deeds, so that an empty list and none are the same.
func told(deeds [][]api.Op) string {
	s := ""
	for _, ops := range deeds {
		s += "{"
		for _, o := range ops {
			s += fmt.Sprint(o.Kind, o.Name, o.N, o.V, ";")
		}
		s += "}"
	}
	return s
}

// stand: the log that is opened again has these deeds, and its room is behind them.
func stand(t *testing.T, d *disk.Disk, from, many, first int, want [][]api.Op) {
	t.Helper()
	l, deeds := opened(t, d, from, many, first)
	if told(deeds) != told(want) {
		t.Errorf("%s, wanted %s", told(deeds), told(want))
	}
	if l.Room() != many-sectors(want) || l.Next() != first+many {
		t.Errorf("room %d, next %d: of %d from %d on, with %s", l.Room(), l.Next(), many, first, told(want))
	}
}

// sectors that deeds have.
func sectors(deeds [][]api.Op) int {
	n := 0
	for _, ops := range deeds {
		n += len(ops) + 1
	}
	return n
}

// adds deeds, none of which may be refused.
func adds(t *testing.T, l *wal.Log, deeds ...[]api.Op) {
	t.Helper()
	for _, ops := range deeds {
		if err := l.Add(ops); err != nil {
			t.Fatalf("%s: %v", told([][]api.Op{ops}), err)
		}
	}
}

// and: these deeds, and one more.
func and(deeds [][]api.Op, ops []api.Op) [][]api.Op {
	return append(append([][]api.Op{}, deeds...), ops)
}

// op: an operation that is told from others by n.
func op(n int) api.Op { return api.Op{Kind: api.Put, Name: "a", V: []int{n, -n}} }

// ops: so many of them.
func ops(from, many int) []api.Op {
	var l []api.Op
	for i := range many {
		l = append(l, op(from+i))
	}
	return l
}

// low: four bytes, the lowest first.
func low(n uint32) string { return string([]byte{byte(n), byte(n >> 8), byte(n >> 16), byte(n >> 24)}) }

// laid: a sector of that kind, number and body.
func laid(kind byte, number uint32, body string) string {
	return string([]byte{kind}) + low(number) + string([]byte{byte(len(body))}) + body
}

// oSector, cSector: as a log writes them.
func oSector(number uint32, o api.Op) string {
	body, _ := pack.Op(o)
	return laid('o', number, body)
}
func cSector(number uint32, count int) string { return laid('c', number, low(uint32(count))) }

// lay sectors from a place on, for good.
func lay(t *testing.T, d *disk.Disk, from int, all ...string) {
	t.Helper()
	for i, s := range all {
		if err := d.Write(from+i, s); err != nil {
			t.Fatal(err)
		}
	}
	if err := d.Flush(); err != nil {
		t.Fatal(err)
	}
}

// image: all bytes of a disk.
func image(t *testing.T, d *disk.Disk) string {
	t.Helper()
	out := ""
	for at := range d.Sectors() {
		s, err := d.Read(at)
		if err != nil {
			t.Fatal(err)
		}
		out += s
	}
	return out
}

// drawnOps: operations of a deed, up to so many.
func drawnOps(r *rand.Rand, most int) []api.Op {
	var l []api.Op
	for range r.IntN(most + 1) {
		o := api.Op{Kind: 1 + r.IntN(4), Name: []string{"a", "b0", "abcdefgh"}[r.IntN(3)], N: r.IntN(5)}
		for range r.IntN(5) {
			o.V = append(o.V, r.IntN(1999)-999)
		}
		l = append(l, o)
	}
	return l
}
