package store_test

import (
	"math/rand/v2"
	"slices"
	"strings"
	"testing"

	"basiskeep/api"
	"basiskeep/disk"
	"basiskeep/store"
)

// I1: which disks have room for a store, and that it is empty, for good.
func TestSizes(t *testing.T) {
	for n := 1; n <= api.Sectors; n++ {
		d := made(t, n)
		if s, err := store.Open(d); s != nil || err != error(api.ErrText) {
			t.Errorf("%d: %v %v", n, s, err)
		}
		if n < 86 {
			before := sectors(t, d)
			d.Arm(0) // it isn't even tried
			if err := store.Format(d); err != error(api.ErrFull) || d.Down() {
				t.Errorf("%d: %v, down %v", n, err, d.Down())
			}
			if s, err := store.Open(d); s != nil || err != error(api.ErrText) || !slices.Equal(sectors(t, d), before) {
				t.Errorf("%d: %v %v", n, s, err)
			}
			continue
		}
		formats(t, d)
		d.Restart(0)
		stays(t, d, opened(t, d), "", n-82)
	}
}

// I1: the disk's errors, behind those of a disk that is too small.
func TestDown(t *testing.T) {
	for _, x := range []struct {
		n            int
		format, open api.Errno
	}{{1, api.ErrFull, api.ErrText}, {85, api.ErrFull, api.ErrText}, {86, api.ErrDown, api.ErrDown}, {200, api.ErrDown, api.ErrDown}} {
		d := made(t, x.n)
		d.Arm(0)
		d.Flush()
		if err := store.Format(d); err != error(x.format) {
			t.Errorf("Format of %d: %v", x.n, err)
		}
		if s, err := store.Open(d); s != nil || err != error(x.open) {
			t.Errorf("Open of %d: %v %v", x.n, s, err)
		}
	}
}

// I1: to open is no step, and changes nothing.
func TestOpenNoStep(t *testing.T) {
	d, s := formatted(t, 90)
	commits(t, s, []api.Op{create("a", 1)}, nil)
	lays(t, s)
	commits(t, s, []api.Op{put("a", 5)})
	before := sectors(t, d)
	d.Arm(0)
	is(t, opened(t, d), "a 1; 5\n", 6)
	if d.Down() || !slices.Equal(sectors(t, d), before) {
		t.Errorf("it wrote to the disk")
	}
}

// I1: disks on which there is no store.
func TestNoStore(t *testing.T) {
	r := rand.New(rand.NewPCG(9, 1))
	drawn := func() string {
		s := make([]byte, 64)
		for i := range s {
			s[i] = byte(r.IntN(256))
		}
		return string(s)
	}
	for _, what := range []func() string{
		func() string { return strings.Repeat("\xff", 64) },
		func() string { return "a 1; 5\n" },
		func() string { return cSector(1, 0) },
		drawn,
	} {
		d := made(t, 100)
		for range 100 {
			lay(t, d, r.IntN(100), what())
		}
		if s, err := store.Open(d); s != nil || err != error(api.ErrText) {
			t.Errorf("%v %v", s, err)
		}
	}
	for long := range 65 {
		d := made(t, 86)
		lay(t, d, 0, strings.Repeat("\x01", long), strings.Repeat("\x00", 64-long)+strings.Repeat("\x01", long))
		if s, err := store.Open(d); s != nil || err != error(api.ErrText) {
			t.Errorf("%d: %v %v", long, s, err)
		}
	}
	d, s := formatted(t, 100)
	commits(t, s, []api.Op{create("a", 1)})
	lays(t, s)
	commits(t, s, []api.Op{put("a", 5)})
	lay(t, d, 0, make([]string, 82)...)
	if s, err := store.Open(d); s != nil || err != error(api.ErrText) {
		t.Errorf("%v %v", s, err)
	}
}

// used: a store in which much was done, on a disk of n sectors.
func used(t *testing.T, r *rand.Rand, n, acts int) *disk.Disk {
	t.Helper()
	d, s := formatted(t, n)
	for range acts {
		if r.IntN(4) == 0 {
			lays(t, s)
			continue
		}
		ops, _ := drawnDeed(r, s.Catalog(), 3)
		commits(t, s, ops)
	}
	return d
}

// goesOn: a store that was formatted is empty, and what was there ahead never comes back.
func goesOn(t *testing.T, d *disk.Disk) {
	t.Helper()
	all := d.Sectors() - 82
	s := opened(t, d)
	stays(t, d, s, "", all)
	commits(t, s, []api.Op{create("q", 1)})
	stays(t, d, s, "q 1\n", all-2)
	for range 6 {
		lays(t, s)
		stays(t, d, s, "q 1\n", all)
	}
	for range 9 {
		commits(t, s, []api.Op{put("q", 3)}, []api.Op{take("q", 3)})
		lays(t, s)
		stays(t, d, s, "q 1\n", all)
	}
}

// I1: a store over another one is empty.
func TestFormatOver(t *testing.T) {
	r := rand.New(rand.NewPCG(9, 2))
	for acts := range 40 {
		d := used(t, r, 86+r.IntN(30), acts)
		formats(t, d)
		goesOn(t, d)
		formats(t, d)
		formats(t, d)
		goesOn(t, d)
	}
}

// I1: a store over bytes of any kind, such as other stores' with some changed, is empty; a disk with such is opened or not, but nothing else.
func TestFormatOverAny(t *testing.T) {
	r := rand.New(rand.NewPCG(9, 3))
	was := map[bool]int{}
	for range 500 {
		d, other := used(t, r, 90, r.IntN(12)), sectors(t, used(t, r, 90, r.IntN(12)))
		for range r.IntN(4) {
			at := []int{0, 1, r.IntN(82), 82 + r.IntN(8)}[r.IntN(4)]
			lay(t, d, at, other[[]int{0, 1, at}[r.IntN(3)]])
		}
		for range r.IntN(6) {
			at := []int{0, 1, r.IntN(90)}[r.IntN(3)]
			s := []byte(sectors(t, d)[at])
			s[[]int{r.IntN(24), r.IntN(64)}[r.IntN(2)]] = []byte{0, 1, 127, 128, 255, byte(r.IntN(256))}[r.IntN(6)]
			lay(t, d, at, string(s))
		}
		s, err := store.Open(d)
		was[err == nil]++
		if err == nil {
			tries(t, d, s)
		} else if err != error(api.ErrText) || s != nil {
			t.Fatalf("%v %v", s, err)
		}
		formats(t, d)
		goesOn(t, d)
	}
	if was[true] < 50 || was[false] < 50 {
		t.Errorf("%v: too few to tell", was)
	}
}

// I1: whatever numbers are in what looks like a store: the least and the greatest ones, at any place of its first sectors.
func TestFormatOverNumbers(t *testing.T) {
	base := used(t, rand.New(rand.NewPCG(9, 9)), 90, 10)
	for at := range 2 {
		for from := range 61 {
			for _, n := range []uint32{0, 1, 1<<31 - 1, 1 << 31, 1<<32 - 9, 1<<32 - 1} {
				d := copied(t, base)
				s := []byte(sectors(t, d)[at])
				copy(s[from:], low(n))
				lay(t, d, at, string(s))
				if s, err := store.Open(d); err == nil {
					tries(t, d, s)
				} else if err != error(api.ErrText) || s != nil {
					t.Fatalf("%v %v", s, err)
				}
				formats(t, d)
				goesOn(t, d)
			}
		}
	}
}

// tries what may be done with a store of which it isn't known how it came to be.
func tries(t *testing.T, d *disk.Disk, s *store.Store) {
	t.Helper()
	want := told(s)
	lays(t, s)
	is(t, s, want, d.Sectors()-82)
	commits(t, s, nil)
	is(t, s, want, d.Sectors()-83)
}

// I1: deeds that stand on the log's sectors, of whatever number, are none of the new store's, nor of it later.
func TestFormatOverDeeds(t *testing.T) {
	for _, n := range []int{86, 93} {
		for number := range uint32(160) {
			for _, number := range []uint32{number, -number} {
				d := made(t, n)
				lay(t, d, 82, oSector(number, create("x", 1)), cSector(number+1, 1), cSector(number+2, 0), oSector(number+3, drop("q")))
				formats(t, d)
				goesOn(t, d)
			}
		}
	}
	d := made(t, 200)
	for i := range uint32(118) { // each for another log
		lay(t, d, 82+int(i), cSector(1+2*i, 0))
	}
	formats(t, d)
	goesOn(t, d)
}

// I1: what was written, but not kept, ahead of it does no harm either.
func TestFormatOverLoose(t *testing.T) {
	for keep := range uint64(64) {
		d := made(t, 90)
		lay(t, d, 82, oSector(1, create("x", 1)), cSector(2, 1))
		d.Write(82, cSector(2, 0))
		d.Write(83, oSector(3, create("x", 2)))
		d.Write(84, cSector(3, 0))
		formats(t, d)
		d.Restart(keep)
		goesOn(t, d)
	}
}

// I1, I4: a fall in Format leaves the store that was there, or the new one, whichever is kept.
func TestFormatFalls(t *testing.T) {
	r := rand.New(rand.NewPCG(9, 4))
	seen := map[bool]int{}
	for acts := range 30 {
		d := used(t, r, 90, acts)
		s := opened(t, d)
		commits(t, s, []api.Op{create("z", 1)})
		want, room := told(s), s.Room()
		for step := range 6 {
			for keep := range uint64(4) {
				x := copied(t, d)
				x.Arm(step)
				err := store.Format(x)
				if err != nil && err != error(api.ErrDown) || (err != nil) != x.Down() {
					t.Fatalf("%d: %v", step, err)
				}
				x.Restart(keep)
				s := opened(t, x)
				if seen[told(s) == ""]++; err == nil || told(s) == "" {
					goesOn(t, x)
					continue
				}
				is(t, s, want, room)
				formats(t, x)
				goesOn(t, x)
			}
		}
	}
	if seen[true] < 100 || seen[false] < 100 {
		t.Errorf("%v: too few to tell", seen)
	}
}

// I1, I4: a fall in Format of a disk without a store leaves none, or an empty one.
func TestFirstFormatFalls(t *testing.T) {
	for step := range 6 {
		for keep := range uint64(4) {
			d := made(t, 90)
			lay(t, d, 82, oSector(1, create("x", 1)), cSector(2, 1))
			d.Arm(step)
			done := store.Format(d) == nil
			d.Restart(keep)
			if s, err := store.Open(d); err == error(api.ErrText) && s == nil && !done {
				formats(t, d)
			}
			goesOn(t, d)
		}
	}
}
