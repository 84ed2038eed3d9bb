package store_test

import (
	"math/rand/v2"
	"slices"
	"strings"
	"testing"

	"basiskeep/api"
	"basiskeep/bag"
	"basiskeep/disk"
	"basiskeep/pack"
	"basiskeep/store"
	"basiskeep/wal"
)

// I2, I3: deeds, one behind the other, and the whole laid between.
func TestCommits(t *testing.T) {
	d, s := formatted(t, 100)
	commits(t, s, []api.Op{create("a", 2), put("a", 4, 6), put("a", 2, 4)})
	stays(t, d, s, "a 2; 4 6; 2 4\n", 14)
	commits(t, s, nil)
	stays(t, d, s, "a 2; 4 6; 2 4\n", 13)
	commits(t, s, []api.Op{create("b", 1)}, []api.Op{take("a", 4, 6)})
	stays(t, d, s, "a 2; 2 4\nb 1\n", 9)
	lays(t, s)
	stays(t, d, s, "a 2; 2 4\nb 1\n", 18)
	lays(t, s)
	stays(t, d, s, "a 2; 2 4\nb 1\n", 18)
	commits(t, s, []api.Op{drop("a"), drop("b")})
	stays(t, d, s, "", 15)
	s = opened(t, d)
	commits(t, s, []api.Op{create("c", 3)})
	lays(t, s)
	stays(t, d, s, "c 3\n", 18)
}

// I1, I2: the log's sectors are those from 82 on, and the deeds stand there as in any log.
func TestLog(t *testing.T) {
	d, s := formatted(t, 100)
	deeds := [][]api.Op{{create("a", 2), put("a", 4, -6)}, {}, {put("a", 7, 8)}}
	for range 3 {
		commits(t, s, deeds...)
		first, _ := d.Read(82)
		log, got, err := wal.Open(d, 82, 18, int(pack.Number(first[1:])))
		if err != nil || log.Room() != 12 || s.Room() != 12 || len(got) != 3 {
			t.Fatalf("%v %v, room %d and %d", got, err, log.Room(), s.Room())
		}
		for i, ops := range deeds {
			if !slices.EqualFunc(got[i], ops, func(x, y api.Op) bool {
				return x.Kind == y.Kind && x.Name == y.Name && x.N == y.N && slices.Equal(x.V, y.V)
			}) {
				t.Errorf("%v, wanted %v", got[i], ops)
			}
		}
		commits(t, s, []api.Op{drop("a")})
		lays(t, s)
	}
}

// refused: a deed isn't committed, and nothing is changed, nor even tried.
func refused(t *testing.T, d *disk.Disk, s *store.Store, ops []api.Op, want api.Errno) {
	t.Helper()
	before, text, room := sectors(t, d), told(s), s.Room()
	d.Arm(0)
	if err := s.Commit(ops); err != error(want) || d.Down() {
		t.Fatalf("%v: %v, down %v, wanted %v", ops, err, d.Down(), want)
	}
	d.Arm(-1)
	if !slices.Equal(sectors(t, d), before) {
		t.Errorf("%v: it wrote to the disk", ops)
	}
	is(t, s, text, room)
}

// I2: which error is told.
func TestRefused(t *testing.T) {
	d, s := formatted(t, 86)
	commits(t, s, []api.Op{create("a", 2), put("a", 1, 2)})
	bad := api.Op{Kind: 9, Name: "a"}
	over := s.Catalog()
	for _, x := range []struct {
		ops  []api.Op
		want api.Errno
	}{
		{turns(over, 13), api.ErrMany},
		{append([]api.Op{bad}, turns(over, 12)...), api.ErrMany},
		{turns(over, 40), api.ErrMany},
		{[]api.Op{bad}, api.ErrShape},
		{[]api.Op{{}}, api.ErrShape},
		{[]api.Op{create("a", 2)}, api.ErrExist},
		{[]api.Op{create("b", 5)}, api.ErrBound},
		{[]api.Op{put("a", 1)}, api.ErrSize},
		{[]api.Op{put("a", 1, 1000)}, api.ErrBound},
		{[]api.Op{take("a", 3, 3)}, api.ErrNone},
		{[]api.Op{drop("b")}, api.ErrNone},
		{[]api.Op{take("a", 1, 2), take("a", 1, 2)}, api.ErrNone},
		{[]api.Op{drop("a"), put("a", 1, 2), bad}, api.ErrNone},
		{[]api.Op{create("b", 1), bad, drop("c")}, api.ErrShape},
		{append(turns(over, 3), bad), api.ErrShape}, // ahead of ErrFull
		{append(turns(over, 11), drop("c")), api.ErrNone},
		{turns(over, 4), api.ErrFull},
		{turns(over, 12), api.ErrFull},
	} {
		refused(t, d, s, x.ops, x.want)
	}
	stays(t, d, s, "a 2; 1 2\n", 1)
	commits(t, s, turns(over, 3)) // all of the log: the whole is laid ahead of it
	stays(t, d, s, "a 2; 1 2\nz 1\n", 0)
	refused(t, d, s, turns(s.Catalog(), 4), api.ErrFull)
	refused(t, d, s, turns(over, 1), api.ErrExist)
	commits(t, s, nil)
	stays(t, d, s, "a 2; 1 2\nz 1\n", 3)
}

// I2, I3: the disk's errors, behind all others.
func TestCommitDown(t *testing.T) {
	d, s := formatted(t, 86)
	commits(t, s, []api.Op{create("a", 2)})
	d.Arm(0)
	d.Flush()
	over := s.Catalog()
	for _, x := range []struct {
		ops  []api.Op
		want api.Errno
	}{
		{turns(over, 13), api.ErrMany}, {turns(over, 4), api.ErrFull}, {[]api.Op{drop("b")}, api.ErrNone},
		{turns(over, 3), api.ErrDown}, {turns(over, 1), api.ErrDown}, {nil, api.ErrDown},
	} {
		if err := s.Commit(x.ops); err != error(x.want) {
			t.Errorf("%v: %v, wanted %v", x.ops, err, x.want)
		}
	}
	if err := s.Checkpoint(); err != error(api.ErrDown) {
		t.Error(err)
	}
	d.Restart(every)
	is(t, opened(t, d), "a 2\n", 2)
}

// I2: as many operations as may be; each many of them takes as many sectors, and one, and the whole is laid if there is no room.
func TestRoom(t *testing.T) {
	for n := 86; n <= 104; n++ {
		for size := range api.MaxOps + 1 {
			d, s := formatted(t, n)
			all, c := n-82, bag.Catalog{}
			if size >= all {
				refused(t, d, s, turns(c, size), api.ErrFull)
				continue
			}
			room := all
			for range 20 {
				ops := turns(c, size)
				for _, o := range ops {
					c, _ = c.Apply(o)
				}
				commits(t, s, ops)
				if size >= room {
					room = all
				}
				room -= size + 1
				stays(t, d, s, pack.Text(c), room)
			}
		}
	}
}

// I2: of deeds that don't fit into what is left, those of a log's size alone do in the end.
func TestRoomOfGreatest(t *testing.T) {
	d, s := formatted(t, 95)
	for i := range 30 {
		commits(t, s, turns(s.Catalog(), 12))
		stays(t, d, s, "", 0)
		if i%3 == 0 {
			s = opened(t, d)
		}
	}
}

// I3: the greatest catalog's text has room, and less than it behind it.
func TestGreatest(t *testing.T) {
	d, s := formatted(t, 94)
	commits(t, s, full()...)
	want := told(s)
	if len(want) != 1768 || strings.Count(want, "-999") != 320 {
		t.Fatalf("%d bytes: %q", len(want), want)
	}
	for range 3 {
		lays(t, s)
		stays(t, d, s, want, 12)
	}
	for i := range 8 {
		x := s.Catalog().Lattices()[0]
		commits(t, s, []api.Op{drop(x.Name)})
		lays(t, s)
		want = want[221:]
		stays(t, d, s, want, 12)
		if i%2 == 0 {
			s = opened(t, d)
		}
	}
	if want != "" {
		t.Errorf("%q", want)
	}
}

// I1 to I3: any acts, held against a catalog in memory and a count of sectors.
func TestActs(t *testing.T) {
	r := rand.New(rand.NewPCG(9, 5))
	for range 60 {
		all := 4 + r.IntN(20)
		d, s := formatted(t, 82+all)
		c, room := bag.Catalog{}, all
		for range 60 {
			switch r.IntN(8) {
			case 0:
				lays(t, s)
				room = all
			case 1:
				s = opened(t, d)
			case 2:
				d.Restart(r.Uint64())
				s = opened(t, d)
			case 3:
				ops, next := drawnDeed(r, c, 3)
				o := drawnOp(r)
				if _, err := next.Apply(o); err != nil {
					refused(t, d, s, append(ops, o), err.(api.Errno))
				}
			default:
				ops, next := drawnDeed(r, c, min(12, all-1))
				commits(t, s, ops)
				if c = next; len(ops) >= room {
					room = all
				}
				room -= len(ops) + 1
			}
			is(t, s, pack.Text(c), room)
		}
	}
}

// Z2: a deed that is handed in is neither kept nor written into, nor what stands behind it read.
func TestDeedNotKept(t *testing.T) {
	d, s := formatted(t, 86)
	v := []int{4, 6, 1000}
	behind := []api.Op{create("a", 2), put("a", v[:2]...), {Kind: 77, Name: "x"}}
	behind[1].V = v[:2]
	for range 3 {
		commits(t, s, behind[:2])
		if !slices.Equal(v, []int{4, 6, 1000}) || behind[2].Kind != 77 || behind[0].Name != "a" || behind[0].V != nil {
			t.Fatalf("%v", behind)
		}
		v[0] = 5
		behind[0].Name = "b"
		stays(t, d, s, "a 2; 4 6\n", 1)
		commits(t, s, []api.Op{drop("a")})
		v[0], behind[0].Name = 4, "a"
	}
}

// Z2: what comes out is the caller's, and a catalog doesn't change when the store does.
func TestCatalogFresh(t *testing.T) {
	d, s := formatted(t, 90)
	commits(t, s, []api.Op{create("a", 2), put("a", 4, 6)})
	c := s.Catalog()
	l := c.Lattices()
	l[0].Gens[0][0], l[0].Name = 77, "spoiled"
	stays(t, d, s, "a 2; 4 6\n", 5)
	commits(t, s, []api.Op{drop("a")})
	lays(t, s)
	if pack.Text(c) != "a 2; 4 6\n" {
		t.Errorf("%q", pack.Text(c))
	}
	next, err := c.Apply(drop("a"))
	if err != nil || pack.Text(next) != "" || pack.Text(c) != "a 2; 4 6\n" {
		t.Errorf("%v", err)
	}
	stays(t, d, s, "", 8)
}

// Z2: stores on several disks know nothing of each other.
func TestApart(t *testing.T) {
	d, s := formatted(t, 90)
	e, x := formatted(t, 95)
	commits(t, s, []api.Op{create("a", 1)})
	commits(t, x, []api.Op{create("b", 2)}, nil)
	lays(t, s)
	stays(t, d, s, "a 1\n", 8)
	stays(t, e, x, "b 2\n", 10)
}
