package txn_test

import (
	"math/rand/v2"
	"testing"

	"basiskeep/api"
	"basiskeep/bag"
	"basiskeep/disk"
	"basiskeep/pack"
	"basiskeep/store"
	"basiskeep/txn"
)

// every bit: all writes are kept.
const every = ^uint64(0)

// made: a disk of n sectors with an empty store.
func made(t *testing.T, n int) *disk.Disk {
	t.Helper()
	d, err := disk.New(n)
	if err != nil {
		t.Fatal(err)
	}
	if err := store.Format(d); err != nil {
		t.Fatal(err)
	}
	return d
}

// opened: a session that may be opened.
func opened(t *testing.T, d *disk.Disk) *txn.Session {
	t.Helper()
	x, err := txn.Open(d)
	if err != nil || x == nil {
		t.Fatalf("Open: %v", err)
	}
	return x
}

// begun: a disk of n sectors, and a session over its empty store.
func begun(t *testing.T, n int) (*disk.Disk, *txn.Session) {
	t.Helper()
	d := made(t, n)
	return d, opened(t, d)
}

// told: what a session sees.
func told(x *txn.Session) string { return pack.Text(x.View()) }

// sees: a session sees this, and a deed is begun or not.
func sees(t *testing.T, x *txn.Session, want string, deed bool) {
	t.Helper()
	if told(x) != want || x.Begun() != deed {
		t.Fatalf("%q, begun %v, wanted %q, %v", told(x), x.Begun(), want, deed)
	}
}

// kept: the store on a disk has this, for good, and so much room.
func kept(t *testing.T, d *disk.Disk, want string, room int) {
	t.Helper()
	d.Restart(0)
	s, err := store.Open(d)
	if err != nil {
		t.Fatal(err)
	}
	if got := pack.Text(s.Catalog()); got != want || s.Room() != room {
		t.Fatalf("%q, room %d, wanted %q, %d", got, s.Room(), want, room)
	}
}

// create, drop, put, take: operations.
func create(name string, n int) api.Op { return api.Op{Kind: api.Create, Name: name, N: n} }
func drop(name string) api.Op          { return api.Op{Kind: api.Drop, Name: name} }
func put(name string, v ...int) api.Op { return api.Op{Kind: api.Put, Name: name, V: v} }
func take(name string, v ...int) api.Op {
	return api.Op{Kind: api.Take, Name: name, V: v}
}

// does operations, none of which may be refused.
func does(t *testing.T, x *txn.Session, ops ...api.Op) {
	t.Helper()
	for _, o := range ops {
		if err := x.Do(o); err != nil {
			t.Fatalf("%v: %v", o, err)
		}
	}
}

// ok: a call isn't refused.
func ok(t *testing.T, err error) {
	t.Helper()
	if err != nil {
		t.Fatal(err)
	}
}

// says: a call is refused so, and changes nothing that the session sees.
func says(t *testing.T, x *txn.Session, call func() error, want api.Errno) {
	t.Helper()
	before, deed := told(x), x.Begun()
	if err := call(); err != error(want) {
		t.Fatalf("%v, wanted %v", err, want)
	}
	sees(t, x, before, deed)
}

// image: all bytes of a disk.
func image(t *testing.T, d *disk.Disk) string {
	t.Helper()
	out := ""
	for at := range d.Sectors() {
		s, err := d.Read(at)
		if err != nil {
			t.Fatal(err)
		}
		out += s
	}
	return out
}

// drawnOp: an operation, most often one that may be done.
func drawnOp(r *rand.Rand) api.Op {
	o := api.Op{Kind: []int{1, 1, 2, 3, 3, 3, 3, 4}[r.IntN(8)], Name: []string{"a", "b", "c", "d0"}[r.IntN(4)]}
	if o.Kind == api.Create {
		o.N = 1 + r.IntN(2)
	}
	for range 1 + r.IntN(2) {
		if o.Kind > api.Drop {
			o.V = append(o.V, []int{0, r.IntN(3) - 1, r.IntN(1999) - 999}[r.IntN(3)])
		}
	}
	switch r.IntN(30) {
	case 0:
		o.N++
	case 1:
		o.Kind = r.IntN(8) - 1
	case 2:
		o.Name = []string{"", "A", "toolongname"}[r.IntN(3)]
	}
	return o
}

// plain: what a session is, over a catalog in memory: another way to do the same.
type plain struct {
	is, deed bag.Catalog
	begun    bool
	many     int // operations of the deed
	all      int // sectors of the log
}

// view of it.
func (p *plain) view() bag.Catalog {
	if p.begun {
		return p.deed
	}
	return p.is
}

// act is done, or not: what is answered.
func (p *plain) act(what string, o api.Op) error {
	switch {
	case what == "begin" && p.begun, what == "save" && p.begun, (what == "commit" || what == "abort") && !p.begun:
		return api.ErrState
	case what == "begin":
		p.deed, p.begun, p.many = p.is, true, 0
	case what == "abort":
		p.begun = false
	case what == "commit" && p.many+1 > p.all:
		return api.ErrFull
	case what == "commit":
		p.is, p.begun = p.deed, false
	case what == "do" && p.begun && p.many == 12:
		return api.ErrMany
	case what == "do":
		next, err := p.view().Apply(o)
		if err != nil {
			return err
		}
		if p.many++; p.begun {
			p.deed = next
		} else {
			p.is = next
		}
	}
	return nil
}

// act over a session, of the same names.
func act(x *txn.Session, what string, o api.Op) error {
	switch what {
	case "begin":
		return x.Begin()
	case "commit":
		return x.Commit()
	case "abort":
		return x.Abort()
	case "save":
		return x.Checkpoint()
	}
	return x.Do(o)
}

// drawnAct: which act comes next; of so many one is something else than an operation, so that there are long deeds, too.
func drawnAct(r *rand.Rand, rare int) string {
	if r.IntN(rare) > 0 {
		return "do"
	}
	return []string{"begin", "begin", "begin", "commit", "commit", "abort", "save"}[r.IntN(7)]
}
