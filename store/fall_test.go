package store_test

import (
	"math/rand/v2"
	"testing"

	"basiskeep/api"
	"basiskeep/bag"
	"basiskeep/disk"
	"basiskeep/pack"
	"basiskeep/store"
)

// act over a store: a deed that is committed, or the whole that is laid.
type act struct {
	what string
	do   func(*store.Store) error
	next func(bag.Catalog) bag.Catalog // what it makes of a catalog
}

// committing: a deed of so many operations.
func committing(what string, many int) act {
	return act{what,
		func(s *store.Store) error { return s.Commit(turns(s.Catalog(), many)) },
		func(c bag.Catalog) bag.Catalog {
			for _, o := range turns(c, many) {
				c, _ = c.Apply(o)
			}
			return c
		}}
}

// laying the whole.
func laying() act {
	return act{"Checkpoint", func(s *store.Store) error { return s.Checkpoint() }, func(c bag.Catalog) bag.Catalog { return c }}
}

// acts to be tried: without operations, up to as many as a log of seven sectors has room for.
func acts() []act {
	return []act{laying(), committing("Commit of none", 0), committing("Commit of one", 1), committing("Commit of two", 2), committing("Commit of six", 6)}
}

// fall: an act, with a fall behind so many steps, and what is kept; the store is opened anew, and has what it had, or that and what was done. Was the act done all the same?
func fall(t *testing.T, d *disk.Disk, a act, step int, keep uint64) bool {
	t.Helper()
	s := opened(t, d)
	was, next := pack.Text(s.Catalog()), pack.Text(a.next(s.Catalog()))
	d.Arm(step)
	err := a.do(s)
	if err != nil && err != error(api.ErrDown) || (err != nil) != d.Down() {
		t.Fatalf("%s, behind %d steps: %v, down %v", a.what, step, err, d.Down())
	}
	d.Restart(keep)
	s = opened(t, d)
	if got := told(s); got != next && (err == nil || got != was) {
		t.Fatalf("%s, behind %d steps, %b kept: %q is neither %q nor %q", a.what, step, keep, got, was, next)
	}
	return err == nil
}

// three: a store on 89 sectors, with a catalog whose text has three sectors, some of it laid as a whole, some in the log, of which so many are free.
func three(t *testing.T, free int) *disk.Disk {
	t.Helper()
	d, s := formatted(t, 89)
	commits(t, s, []api.Op{create("abcdefgh", 4)})
	for i := range 7 {
		commits(t, s, []api.Op{put("abcdefgh", -900-i, -800-i, -700-i, -600-i)})
	}
	lays(t, s)
	if free < 6 {
		commits(t, s, []api.Op{put("abcdefgh", 1, 2, 3, 4)})
	}
	for range s.Room() - free {
		commits(t, s, nil)
	}
	if n := len(told(s)); n <= 2*64 || n > 3*64 {
		t.Fatalf("%d bytes", n)
	}
	return d
}

// I4: a fall at any step of any act, and any choice of what is kept of it; then the same of another act, and then all goes on.
func TestFalls(t *testing.T) {
	r := rand.New(rand.NewPCG(9, 6))
	count := map[bool]int{}
	for _, free := range []int{7, 5, 3, 1, 0} {
		base := three(t, free)
		for _, a := range acts() {
			for step, done := 0, false; !done; step++ {
				for keep := range uint64(1 << 6) {
					d := copied(t, base)
					done = fall(t, d, a, step, keep)
					count[done]++
					b := acts()[r.IntN(5)]
					fall(t, d, b, r.IntN(10), r.Uint64())
					s := opened(t, d)
					want := told(s)
					commits(t, s, turns(s.Catalog(), 2), nil)
					stays(t, d, s, want, s.Room())
					lays(t, s)
					stays(t, d, s, want, 7)
				}
			}
		}
	}
	if count[true] < 1000 || count[false] < 5000 {
		t.Errorf("%v: too few to tell", count)
	}
}

// I4: two falls, one behind the other, at each pair of steps.
func TestFallsTwice(t *testing.T) {
	for _, free := range []int{5, 2} {
		base := three(t, free)
		for _, a := range acts() {
			for _, b := range acts() {
				for step, done := 0, false; !done; step++ {
					for again, doneToo := 0, false; !doneToo; again++ {
						for _, keep := range [][2]uint64{{0, 0}, {every, 0}, {0, every}, {every, every}, {5, 2}, {2, 5}} {
							d := copied(t, base)
							done = fall(t, d, a, step, keep[0])
							doneToo = fall(t, d, b, again, keep[1])
						}
					}
				}
			}
		}
	}
}

// I4: the greatest texts there are, each step, and single writes kept or lost.
func TestFallsOfGreatest(t *testing.T) {
	base, s := formatted(t, 95)
	commits(t, s, full()...)
	x := s.Catalog().Lattices()[3].Name
	a := act{"Commit",
		func(s *store.Store) error { return s.Commit([]api.Op{take(x, -999, -999, -999, -999)}) },
		func(c bag.Catalog) bag.Catalog {
			c, _ = c.Apply(take(x, -999, -999, -999, -999))
			return c
		}}
	for range s.Room() - 1 {
		commits(t, s, nil)
	}
	r := rand.New(rand.NewPCG(9, 7))
	for step, done := 0, false; !done; step++ {
		for bit := range 30 {
			for _, keep := range []uint64{1 << bit, ^(1 << bit), 0, every, r.Uint64()} {
				d := copied(t, base)
				done = fall(t, d, a, step, keep)
			}
		}
	}
}

// W5, I4: long runs with many falls, held against a catalog in memory.
func TestFallsOften(t *testing.T) {
	r := rand.New(rand.NewPCG(9, 8))
	falls := 0
	for range 150 {
		all := 4 + r.IntN(20)
		d, s := formatted(t, 82+all)
		was := bag.Catalog{}
		for range 60 {
			if r.IntN(5) == 0 {
				d.Arm(r.IntN(40))
			}
			ops, next := drawnDeed(r, was, min(12, all-1))
			var err error
			if r.IntN(6) == 0 {
				next, err = was, s.Checkpoint()
			} else {
				err = s.Commit(ops)
			}
			if err == nil {
				was = next
			}
			if err != nil || r.IntN(10) == 0 {
				falls++
				d.Restart(r.Uint64())
				s = opened(t, d)
				if told(s) == pack.Text(next) {
					was = next
				}
			}
			if told(s) != pack.Text(was) {
				t.Fatalf("%q is neither %q nor %q", told(s), pack.Text(was), pack.Text(next))
			}
		}
	}
	if falls < 500 {
		t.Errorf("%d falls: too few to tell", falls)
	}
}
