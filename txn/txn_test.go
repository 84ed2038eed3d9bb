package txn_test

import (
	"math/rand/v2"
	"testing"

	"basiskeep/api"
	"basiskeep/bag"
	"basiskeep/disk"
	"basiskeep/pack"
	"basiskeep/store"
	"basiskeep/txn"
)

// K1: what Open says, and what a session sees at first.
func TestOpen(t *testing.T) {
	for _, n := range []int{1, 85, 86, 200} {
		d, err := disk.New(n)
		ok(t, err)
		if x, err := txn.Open(d); x != nil || err != error(api.ErrText) {
			t.Errorf("%d: %v %v", n, x, err)
		}
	}
	d := made(t, 90)
	x := opened(t, d)
	sees(t, x, "", false)
	s, err := store.Open(d)
	ok(t, err)
	ok(t, s.Commit([]api.Op{create("a", 1), put("a", 3)}))
	sees(t, opened(t, d), "a 1; 3\n", false)
	ok(t, s.Checkpoint())
	sees(t, opened(t, d), "a 1; 3\n", false)
	d.Arm(0)
	sees(t, opened(t, d), "a 1; 3\n", false) // to open is no step
	d.Flush()
	if x, err := txn.Open(d); x != nil || err != error(api.ErrDown) {
		t.Errorf("%v %v", x, err)
	}
}

// K1, K2, K3: the document's session.
func TestSession(t *testing.T) {
	d, x := begun(t, 100)
	does(t, x, create("a", 2), put("a", 4, 6), put("a", 2, 4))
	sees(t, x, "a 2; 4 6; 2 4\n", false)
	kept(t, d, "a 2; 4 6; 2 4\n", 12)
	ok(t, x.Begin())
	does(t, x, create("b", 2), put("b", 3, 0), put("b", 0, 5))
	sees(t, x, "a 2; 4 6; 2 4\nb 2; 3 0; 0 5\n", true)
	kept(t, d, "a 2; 4 6; 2 4\n", 12)
	ok(t, x.Abort())
	sees(t, x, "a 2; 4 6; 2 4\n", false)
	ok(t, x.Begin())
	sees(t, x, "a 2; 4 6; 2 4\n", true)
	does(t, x, create("b", 2), put("b", 3, 0), put("b", 0, 5))
	ok(t, x.Commit())
	sees(t, x, "a 2; 4 6; 2 4\nb 2; 3 0; 0 5\n", false)
	kept(t, d, "a 2; 4 6; 2 4\nb 2; 3 0; 0 5\n", 8)
	does(t, x, take("a", 2, 4))
	ok(t, x.Checkpoint())
	sees(t, x, "a 2; 4 6\nb 2; 3 0; 0 5\n", false)
	kept(t, d, "a 2; 4 6\nb 2; 3 0; 0 5\n", 18)
}

// K1, K3: what may not be now, and that nothing is changed by it.
func TestState(t *testing.T) {
	d, x := begun(t, 90)
	does(t, x, create("a", 1))
	before := image(t, d)
	d.Arm(0)
	says(t, x, x.Commit, api.ErrState)
	says(t, x, x.Abort, api.ErrState)
	ok(t, x.Begin())
	says(t, x, x.Begin, api.ErrState)
	says(t, x, x.Checkpoint, api.ErrState)
	does(t, x, put("a", 1))
	says(t, x, x.Begin, api.ErrState)
	says(t, x, x.Checkpoint, api.ErrState)
	sees(t, x, "a 1; 1\n", true)
	ok(t, x.Abort())
	says(t, x, x.Abort, api.ErrState)
	says(t, x, x.Commit, api.ErrState)
	if d.Down() || image(t, d) != before {
		t.Errorf("it wrote to the disk")
	}
	d.Arm(-1)
	kept(t, d, "a 1\n", 6)
}

// K1, K3: a deed without operations is one, too.
func TestEmptyDeed(t *testing.T) {
	d, x := begun(t, 90)
	ok(t, x.Begin())
	ok(t, x.Commit())
	sees(t, x, "", false)
	kept(t, d, "", 7)
	ok(t, x.Begin())
	ok(t, x.Abort())
	kept(t, d, "", 7)
}

// K2: which errors an operation has, alone and in a deed.
func TestDoWrong(t *testing.T) {
	for _, deed := range []bool{false, true} {
		d, x := begun(t, 100)
		does(t, x, create("a", 2), put("a", 1, 2))
		if deed {
			ok(t, x.Begin())
			does(t, x, create("b", 1), put("b", 7), drop("a"), create("a", 2), put("a", 1, 2), drop("b"))
		}
		for _, y := range []struct {
			o    api.Op
			want api.Errno
		}{
			{api.Op{}, api.ErrShape}, {api.Op{Kind: 5, Name: "a"}, api.ErrShape}, {create("A", 1), api.ErrShape},
			{create("a", 2), api.ErrExist}, {create("c", 0), api.ErrBound}, {create("c", 5), api.ErrBound},
			{put("a", 1), api.ErrSize}, {put("a", 1, 1000), api.ErrBound}, {take("a", 2, 1), api.ErrNone},
			{drop("b"), api.ErrNone}, {put("b", 7), api.ErrNone}, {api.Op{Kind: api.Drop, Name: "a", N: 2}, api.ErrShape},
		} {
			says(t, x, func() error { return x.Do(y.o) }, y.want)
		}
		sees(t, x, "a 2; 1 2\n", deed)
		kept(t, d, "a 2; 1 2\n", 14)
	}
}

// K2: a deed has at most MaxOps operations; that is told ahead of what is wrong with one more.
func TestMany(t *testing.T) {
	d, x := begun(t, 100)
	for range 3 {
		ok(t, x.Begin())
		for range 6 {
			does(t, x, create("a", 1), drop("a"))
		}
		for _, o := range []api.Op{create("a", 1), create("a", 9), {}, drop("b")} {
			says(t, x, func() error { return x.Do(o) }, api.ErrMany)
		}
		ok(t, x.Commit())
		kept(t, d, "", 5)
	}
	for range 20 { // alone there is no end of them
		does(t, x, create("a", 1), drop("a"))
	}
	ok(t, x.Begin())
	does(t, x, create("b", 1))
	for range 9 {
		says(t, x, func() error { return x.Do(create("b", 1)) }, api.ErrExist) // these don't count
	}
	for range 5 {
		does(t, x, create("a", 1), drop("a"))
	}
	does(t, x, create("c", 1))
	says(t, x, func() error { return x.Do(drop("c")) }, api.ErrMany)
	ok(t, x.Commit())
	sees(t, x, "b 1\nc 1\n", false)
}

// K3: a deed for which no log has room stays begun, and may be aborted.
func TestFull(t *testing.T) {
	d, x := begun(t, 86)
	does(t, x, create("a", 1))
	ok(t, x.Begin())
	does(t, x, put("a", 1), put("a", 2), put("a", 3))
	ok(t, x.Commit()) // all of the log: the whole is laid ahead of it
	kept(t, d, "a 1; 1; 2; 3\n", 0)
	ok(t, x.Begin())
	does(t, x, put("a", 4), put("a", 5), put("a", 6), take("a", 1))
	before := image(t, d)
	d.Arm(0)
	says(t, x, x.Commit, api.ErrFull)
	says(t, x, x.Commit, api.ErrFull)
	does(t, x, take("a", 2))
	sees(t, x, "a 1; 3; 4; 5; 6\n", true)
	says(t, x, x.Commit, api.ErrFull)
	if d.Down() || image(t, d) != before {
		t.Errorf("it wrote to the disk")
	}
	d.Arm(-1)
	ok(t, x.Abort())
	sees(t, x, "a 1; 1; 2; 3\n", false)
	does(t, x, put("a", 4))
	kept(t, d, "a 1; 1; 2; 3; 4\n", 2)
}

// K2, K3: the disk's errors; a deed that isn't committed stays begun.
func TestDown(t *testing.T) {
	d, x := begun(t, 90)
	does(t, x, create("a", 1))
	ok(t, x.Begin())
	does(t, x, put("a", 1))
	d.Arm(0)
	says(t, x, x.Commit, api.ErrDown)
	sees(t, x, "a 1; 1\n", true)
	ok(t, x.Abort())
	says(t, x, x.Checkpoint, api.ErrDown)
	says(t, x, func() error { return x.Do(put("a", 2)) }, api.ErrDown)
	says(t, x, func() error { return x.Do(put("b", 2)) }, api.ErrNone)
	says(t, x, x.Abort, api.ErrState)
	d.Restart(every)
	sees(t, opened(t, d), "a 1\n", false)
}

// K1: a session that is opened anew knows nothing of a deed that was begun.
func TestLost(t *testing.T) {
	d, x := begun(t, 90)
	does(t, x, create("a", 1))
	ok(t, x.Begin())
	does(t, x, put("a", 1), create("b", 1))
	sees(t, opened(t, d), "a 1\n", false)
}

// K1 to K3: any acts, held against catalogs in memory.
func TestActs(t *testing.T) {
	r := rand.New(rand.NewPCG(10, 1))
	said := map[error]int{}
	for i := range 500 {
		all := 4 + r.IntN(20)
		d, x := begun(t, 82+all)
		p := &plain{all: all}
		for range 60 {
			if r.IntN(30) == 0 {
				x, p.begun = opened(t, d), false
			}
			what, o := drawnAct(r, []int{2, 4, 10, 20}[i%4]), drawnOp(r)
			err, want := act(x, what, o), p.act(what, o)
			if said[err]++; err != want {
				t.Fatalf("%s %v: %v, wanted %v", what, o, err, want)
			}
			sees(t, x, pack.Text(p.view()), p.begun)
		}
		sees(t, opened(t, d), pack.Text(p.is), false)
	}
	for _, err := range []error{nil, api.ErrState, api.ErrFull, api.ErrMany, api.ErrNone, api.ErrSize, api.ErrShape, api.ErrExist} {
		if said[err] < 10 {
			t.Errorf("%v was said %d times: too few to tell", err, said[err])
		}
	}
}

// W6: a deed that is committed is what its operations do one by one; one that is aborted was not.
func TestOneByOne(t *testing.T) {
	r := rand.New(rand.NewPCG(10, 2))
	for range 200 {
		d, x := begun(t, 100)
		e, y := begun(t, 100)
		for range 10 {
			ok(t, x.Begin())
			gone := r.IntN(3) == 0
			for range r.IntN(13) {
				o := drawnOp(r)
				err := x.Do(o)
				if gone {
					continue
				}
				if alone := y.Do(o); alone != err {
					t.Fatalf("%v: %v, alone %v", o, err, alone)
				}
				if told(x) != told(y) {
					t.Fatalf("%q, alone %q", told(x), told(y))
				}
			}
			if gone {
				ok(t, x.Abort())
			} else {
				ok(t, x.Commit())
			}
			if told(x) != told(y) || told(opened(t, d)) != told(opened(t, e)) {
				t.Fatalf("%q, alone %q", told(x), told(y))
			}
		}
	}
}

// W5, K3: a fall at any step of what a session does, and any choice of what is kept.
func TestFalls(t *testing.T) {
	count := map[bool]int{}
	for _, free := range []int{8, 5, 2, 0} {
		for _, what := range []string{"do", "commit", "save", "abort"} {
			for step, done := 0, false; !done; step++ {
				for keep := range uint64(32) {
					d, x := begun(t, 90)
					does(t, x, create("a", 1))
					ok(t, x.Checkpoint())
					for range 8 - free {
						ok(t, x.Begin())
						ok(t, x.Commit())
					}
					was, next := "a 1\n", "a 1\n"
					if what == "commit" || what == "abort" {
						ok(t, x.Begin())
						does(t, x, put("a", 1), put("a", 2), create("b", 1))
					}
					if what == "commit" {
						next = "a 1; 1; 2\nb 1\n"
					}
					if what == "do" {
						next = "a 1; 3\n"
					}
					d.Arm(step)
					done = act(x, what, put("a", 3)) == nil
					d.Restart(keep)
					x = opened(t, d)
					if got := told(x); got != next && (done || got != was) {
						t.Fatalf("%s behind %d steps, %b kept: %q", what, step, keep, got)
					}
					count[told(x) == next]++
					goesOn(t, d, x)
				}
			}
		}
	}
	if count[true] < 100 || count[false] < 100 {
		t.Errorf("%v: too few to tell", count)
	}
}

// goesOn: a session goes on behind a fall.
func goesOn(t *testing.T, d *disk.Disk, x *txn.Session) {
	t.Helper()
	was := told(x)
	ok(t, x.Begin())
	does(t, x, create("z", 1), put("z", 5))
	ok(t, x.Commit())
	sees(t, opened(t, d), was+"z 1; 5\n", false)
	ok(t, x.Checkpoint())
	sees(t, opened(t, d), was+"z 1; 5\n", false)
}

// Z2: an operation that is handed in is neither kept nor written into, nor what stands behind it read.
func TestOpNotKept(t *testing.T) {
	for _, deed := range []bool{false, true} {
		d, x := begun(t, 90)
		if deed {
			ok(t, x.Begin())
		}
		v := []int{4, 6, 1000}
		does(t, x, create("a", 2))
		for _, first := range []int{4, 5} {
			v[0] = first
			does(t, x, api.Op{Kind: api.Put, Name: "a", V: v[:2]})
			if v[0] != first || v[1] != 6 || v[2] != 1000 {
				t.Errorf("%v", v)
			}
		}
		v[0], v[1] = 77, 77
		sees(t, x, "a 2; 4 6; 5 6\n", deed)
		if deed {
			ok(t, x.Commit())
		}
		sees(t, opened(t, d), "a 2; 4 6; 5 6\n", false)
	}
}

// Z2: a view is the caller's, and doesn't change when the session does.
func TestViewFresh(t *testing.T) {
	d, x := begun(t, 90)
	does(t, x, create("a", 1), put("a", 1))
	ok(t, x.Begin())
	does(t, x, put("a", 2))
	view := x.View()
	l := view.Lattices()
	l[0].Gens[0][0], l[0].Gens[1][0] = 77, 77
	sees(t, x, "a 1; 1; 2\n", true)
	does(t, x, drop("a"))
	ok(t, x.Commit())
	if pack.Text(view) != "a 1; 1; 2\n" {
		t.Errorf("%q", pack.Text(view))
	}
	if pack.Text(x.View()) != pack.Text(bag.Catalog{}) {
		t.Errorf("%q", told(x))
	}
	sees(t, opened(t, d), "", false)
}

// Z2: sessions over several disks know nothing of each other.
func TestApart(t *testing.T) {
	_, x := begun(t, 90)
	_, y := begun(t, 90)
	ok(t, x.Begin())
	does(t, x, create("a", 1))
	sees(t, y, "", false)
	does(t, y, create("b", 1))
	sees(t, x, "a 1\n", true)
	ok(t, x.Abort())
	sees(t, y, "b 1\n", false)
}
