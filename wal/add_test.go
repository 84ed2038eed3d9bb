package wal_test

import (
	"math/rand/v2"
	"slices"
	"testing"

	"basiskeep/api"
	"basiskeep/disk"
	"basiskeep/wal"
)

// H1, H2: which bytes a deed has, and that no other sector is written.
func TestLayout(t *testing.T) {
	d := made(t, 12)
	for at := range 12 {
		d.Write(at, "before")
	}
	l, deeds := opened(t, d, 2, 8, 300)
	if len(deeds) != 0 || l.Room() != 8 || l.Next() != 308 {
		t.Errorf("%s %d %d", told(deeds), l.Room(), l.Next())
	}
	adds(t, l, []api.Op{{Kind: api.Create, Name: "ab", N: 3}, {Kind: api.Put, Name: "ab", V: []int{1, -1, 999}}}, nil)
	d.Restart(0)
	for at, want := range []string{
		"before", "before",
		"o\x2c\x01\x00\x00\x06\x01\x02ab\x03\x00",
		"o\x2d\x01\x00\x00\x0c\x03\x02ab\x00\x03\x01\x00\xff\xff\xe7\x03",
		"c\x2e\x01\x00\x00\x04\x02\x00\x00\x00",
		"c\x2f\x01\x00\x00\x04\x00\x00\x00\x00",
		"before", "before", "before", "before", "before", "before",
	} {
		if s, err := d.Read(at); err != nil || s[:len(want)] != want {
			t.Errorf("sector %d: %q %v, wanted %q", at, s, err, want)
		}
	}
	if l.Room() != 4 || l.Next() != 308 {
		t.Errorf("%d %d", l.Room(), l.Next())
	}
}

// H2: one deed behind the other, till there is no room.
func TestFill(t *testing.T) {
	for many := 1; many <= 20; many++ {
		for size := range 6 {
			d := made(t, 25)
			l, _ := opened(t, d, 3, many, 9)
			var want [][]api.Op
			for l.Room() > size {
				next := ops(10*len(want), size)
				adds(t, l, next)
				want = append(want, next)
				if l.Room() != many-sectors(want) || l.Next() != 9+many {
					t.Fatalf("room %d, next %d of %d with %s", l.Room(), l.Next(), many, told(want))
				}
			}
			if err := l.Add(ops(0, size)); err != error(api.ErrFull) {
				t.Errorf("%d of %d: %v", size, many, err)
			}
			d.Restart(0)
			stand(t, d, 3, many, 9, want)
		}
	}
}

// H2: which error is told, and that a call that tells one changes nothing.
func TestAddWrong(t *testing.T) {
	bad, far := api.Op{Kind: 9, Name: "a"}, op(1000)
	d := made(t, 20)
	l, _ := opened(t, d, 0, 20, 1)
	adds(t, l, ops(1, 2))
	for _, x := range []struct {
		ops  []api.Op
		want api.Errno
	}{
		{ops(1, 13), api.ErrMany},
		{append(ops(1, 12), bad), api.ErrMany},
		{ops(1, 30), api.ErrMany},
		{[]api.Op{bad}, api.ErrShape},
		{[]api.Op{far}, api.ErrBound},
		{[]api.Op{op(1), far, bad}, api.ErrBound},
		{[]api.Op{op(1), bad, far}, api.ErrShape},
		{append(ops(1, 11), far), api.ErrBound},
	} {
		before := image(t, d)
		d.Arm(0) // it isn't even tried
		if err := l.Add(x.ops); err != error(x.want) || d.Down() {
			t.Errorf("%s: %v, down %v, wanted %v", told([][]api.Op{x.ops}), err, d.Down(), x.want)
		}
		if l.Room() != 17 || image(t, d) != before {
			t.Errorf("%s: it changed something", told([][]api.Op{x.ops}))
		}
	}
	d.Arm(-1)
	adds(t, l, ops(1, 12))
	for _, x := range []struct {
		ops  []api.Op
		want api.Errno
	}{
		{ops(1, 13), api.ErrMany},
		{ops(1, 4), api.ErrFull},
		{ops(1, 12), api.ErrFull},
		{append(ops(1, 3), bad), api.ErrFull},
		{append(ops(1, 2), bad), api.ErrShape},
	} {
		if err := l.Add(x.ops); err != error(x.want) || l.Room() != 4 {
			t.Errorf("%s: %v, wanted %v", told([][]api.Op{x.ops}), err, x.want)
		}
	}
	adds(t, l, ops(5, 3))
	stand(t, d, 0, 20, 1, [][]api.Op{ops(1, 2), ops(1, 12), ops(5, 3)})
	if err := l.Add(nil); err != error(api.ErrFull) || l.Room() != 0 {
		t.Errorf("%v", err)
	}
}

// H2: the disk's error comes behind all others.
func TestAddDown(t *testing.T) {
	d := made(t, 5)
	l, _ := opened(t, d, 0, 5, 1)
	d.Arm(0)
	d.Flush()
	for _, x := range []struct {
		ops  []api.Op
		want api.Errno
	}{
		{ops(1, 13), api.ErrMany}, {ops(1, 5), api.ErrFull}, {[]api.Op{{}}, api.ErrShape}, {ops(1, 4), api.ErrDown}, {nil, api.ErrDown},
	} {
		if err := l.Add(x.ops); err != error(x.want) || l.Room() != 5 || l.Next() != 6 {
			t.Errorf("%s: %v, wanted %v", told([][]api.Op{x.ops}), err, x.want)
		}
	}
	d.Restart(every)
	stand(t, d, 0, 5, 1, nil)
}

// fallAt: a deed is added, the disk falls behind so many steps, and restarts; was the deed added all the same?
func fallAt(t *testing.T, d *disk.Disk, l *wal.Log, next []api.Op, steps int, keep uint64) bool {
	t.Helper()
	d.Arm(steps)
	err := l.Add(next)
	if err != nil && err != error(api.ErrDown) || (err != nil) != d.Down() {
		t.Fatalf("behind %d steps: %v, down %v", steps, err, d.Down())
	}
	d.Restart(keep)
	return err == nil
}

// whole: the log that is opened again has the deeds that were there, and the one that was added, whole, or, if it need not be there, not at all.
func whole(t *testing.T, d *disk.Disk, there [][]api.Op, next []api.Op, must bool) [][]api.Op {
	t.Helper()
	_, deeds := opened(t, d, 1, 14, 5)
	if told(deeds) != told(and(there, next)) && (must || told(deeds) != told(there)) {
		t.Fatalf("%s: there were %s, and %s", told(deeds), told(there), told([][]api.Op{next}))
	}
	stand(t, d, 1, 14, 5, deeds)
	return deeds
}

// H2: a fall at any step, with any of the writes kept, and then another one.
func TestFalls(t *testing.T) {
	seen := map[bool]int{}
	for size := range 4 {
		for other := range 4 {
			for step := range size + 4 {
				for keep := range uint64(1 << (size + 1)) {
					for again := range other + 4 {
						d := made(t, 16)
						l, _ := opened(t, d, 1, 14, 5)
						there := [][]api.Op{ops(1, 2)}
						adds(t, l, there...)
						must := fallAt(t, d, l, ops(10, size), step, keep)
						there = whole(t, d, there, ops(10, size), must)
						seen[len(there) == 2]++
						l, _ = opened(t, d, 1, 14, 5)
						kept := keep * 0x9e3779b97f4a7c15 >> 20 // any others
						must = fallAt(t, d, l, ops(20, other), again, kept)
						whole(t, d, there, ops(20, other), must)
					}
				}
			}
		}
	}
	if seen[true] < 100 || seen[false] < 100 {
		t.Errorf("%v: too few to tell", seen)
	}
}

// H2: with as many operations as may be, each step, and single writes kept or lost.
func TestFallsOfMany(t *testing.T) {
	for step := range api.MaxOps + 4 {
		for bit := range 16 {
			for _, keep := range []uint64{1 << bit, ^(1 << bit), 0, every} {
				d := made(t, 16)
				l, _ := opened(t, d, 1, 14, 5)
				adds(t, l, nil)
				must := fallAt(t, d, l, ops(10, 12), step, keep)
				whole(t, d, [][]api.Op{{}}, ops(10, 12), must)
			}
		}
	}
}

// H2: a deed of which a fall left operations behind is none, and none of them comes into another one.
func TestHalfKept(t *testing.T) {
	for keep := range uint64(8) {
		d := made(t, 16)
		l, _ := opened(t, d, 1, 14, 5)
		fallAt(t, d, l, ops(10, 2), 3, every) // kept, but not closed
		stand(t, d, 1, 14, 5, nil)
		l, _ = opened(t, d, 1, 14, 5)
		for step := range 6 {
			must := fallAt(t, d, l, ops(20, 2), step, keep)
			whole(t, d, nil, ops(20, 2), must)
			l, _ = opened(t, d, 1, 14, 5)
			if l.Room() < 14 {
				break
			}
		}
	}
}

// H2: a log that told an error, and is used on, without being opened again.
func TestUsedOn(t *testing.T) {
	for size := range 4 {
		for other := range 5 {
			for step := range size + 3 {
				for again := range other + 8 {
					for keep := range uint64(1 << (other + 2)) {
						d := made(t, 16)
						l, _ := opened(t, d, 1, 14, 5)
						fallAt(t, d, l, ops(10, size), step, every)
						_, there := opened(t, d, 1, 14, 5)
						must := fallAt(t, d, l, ops(20, other), again, keep)
						_, deeds := opened(t, d, 1, 14, 5)
						got := told(deeds)
						if got != told([][]api.Op{ops(20, other)}) && (must || got != "" && got != told(there)) {
							t.Fatalf("%s: there was %s", got, told(there))
						}
					}
				}
			}
		}
	}
}

// leftovers: sectors with the right numbers, of a log from 5 on, that are no deeds, but could become some.
func leftovers() [][]string {
	o := func(i int) string { return oSector(uint32(5+i), op(500+i)) }
	c := func(i, count int) string { return cSector(uint32(5+i), count) }
	return [][]string{
		{"", o(1), c(2, 2), o(3), c(4, 1)},
		{"", c(1, 1), o(2), o(3), c(4, 2), c(5, 0)},
		{"", o(1), o(2), c(3, 3), c(4, 0), c(5, 0)},
		{"", "", c(2, 2), o(3), c(4, 1), o(5), o(6), c(7, 2)},
		{"", o(1), o(2), o(3), o(4), c(5, 5)},
		{c(0, 1), c(1, 0), c(2, 0), c(3, 0), c(4, 0)},
		{o(0), c(1, 2), c(2, 2), c(3, 0), c(4, 0), o(5), c(6, 1)},
	}
}

// walled: a disk of 16 sectors with a log's on all but the first and the last one, which have other bytes.
func walled(t *testing.T, all []string) *disk.Disk {
	t.Helper()
	d := made(t, 16)
	lay(t, d, 0, "ahead")
	lay(t, d, 1, all...)
	lay(t, d, 15, "behind")
	return d
}

// H2: whatever was left behind the last deed, one more is there whole, or not at all, and nothing else is; no sectors but the log's are written.
func TestLeftovers(t *testing.T) {
	for _, left := range leftovers() {
		for size := range 5 {
			next := ops(20, size)
			for step := -1; step < size+9; step++ {
				for keep := range uint64(1 << 7) {
					d := walled(t, left)
					stand(t, d, 1, 14, 5, nil)
					l, _ := opened(t, d, 1, 14, 5)
					must := fallAt(t, d, l, next, step, keep)
					if must != (l.Room() == 13-size) {
						t.Fatalf("room %d behind %s", l.Room(), told([][]api.Op{next}))
					}
					whole(t, d, nil, next, must)
					if all := image(t, d); all[:5] != "ahead" || all[15*64:15*64+6] != "behind" {
						t.Fatalf("behind %d steps, with %b kept: other sectors were written", step, keep)
					}
				}
			}
		}
	}
}

// H2: a deed that is added has none behind it, wherever the log ends, and whatever stands on the sectors behind.
func TestNoneBehind(t *testing.T) {
	o := func(i int) string { return oSector(uint32(1+i), op(500+i)) }
	c := func(i, count int) string { return cSector(uint32(1+i), count) }
	for _, x := range []struct {
		what string
		all  []string
		many int
		next []api.Op
	}{
		{"another count", []string{o(0), o(1), o(2), c(3, 2)}, 6, nil},
		{"empty ones", []string{"", c(1, 0), c(2, 0)}, 6, nil},
		{"one", []string{"", "", o(2), c(3, 1)}, 6, ops(1, 1)},
		{"one at the end", []string{"", "", o(2), c(3, 1)}, 4, ops(1, 1)},
		{"one that the end cuts", []string{"", "", o(2), c(3, 1)}, 3, ops(1, 1)},
		{"one behind the end", []string{"", "", o(2), c(3, 1)}, 2, ops(1, 1)},
		{"one on the last sector", []string{"", "", "", "", "", "", "", "", c(8, 0)}, 9, ops(1, 7)},
		{"one behind operations", []string{"", "", o(2), o(3), o(4), c(5, 3), c(6, 0)}, 9, ops(1, 1)},
		{"one on each sector but the first", []string{"", c(1, 0), c(2, 0), c(3, 0), c(4, 0), c(5, 0), c(6, 0), c(7, 0), c(8, 0)}, 9, ops(1, 3)},
	} {
		t.Run(x.what, func(t *testing.T) {
			d := made(t, 9)
			lay(t, d, 0, x.all...)
			behind := image(t, d)[64*x.many:]
			l, _ := opened(t, d, 0, x.many, 1)
			want := [][]api.Op{x.next}
			adds(t, l, x.next)
			for {
				if l.Room() != x.many-sectors(want) {
					t.Errorf("room %d of %d with %s", l.Room(), x.many, told(want))
				}
				d.Restart(0)
				stand(t, d, 0, x.many, 1, want)
				if l.Room() == 0 {
					break
				}
				adds(t, l, nil) // the next one over what is left
				want = and(want, nil)
			}
			if image(t, d)[64*x.many:] != behind {
				t.Errorf("sectors behind the log were written")
			}
		})
	}
}

// H2: all logs of four sectors, each without anything, with an operation, or closing up to two: a fall at any step, with any of the writes kept, and a deed behind it.
func TestAllLeftovers(t *testing.T) {
	const many = 4
	for all := range 5 * 5 * 5 * 5 {
		var left []string
		for i, n := 0, all; i < many; i, n = i+1, n/5 {
			left = append(left, []string{"", oSector(uint32(1+i), op(500+i)), cSector(uint32(1+i), 0), cSector(uint32(1+i), 1), cSector(uint32(1+i), 2)}[n%5])
		}
		for size := range many {
			for step := range size + many + 5 { // the last one is behind all of its steps
				for keep := range uint64(1 << many) {
					allLeftovers(t, left, size, step, keep)
				}
			}
		}
	}
}

// allLeftovers: one of these.
func allLeftovers(t *testing.T, left []string, size, step int, keep uint64) {
	t.Helper()
	d := made(t, len(left))
	lay(t, d, 0, left...)
	l, there := opened(t, d, 0, len(left), 1)
	if size >= l.Room() {
		return
	}
	next := ops(20, size)
	must := fallAt(t, d, l, next, step, keep)
	l, deeds := opened(t, d, 0, len(left), 1)
	if told(deeds) != told(and(there, next)) && (must || told(deeds) != told(there)) {
		t.Fatalf("%q: %s: there were %s, and %s", left, told(deeds), told(there), told([][]api.Op{next}))
	}
	if room := l.Room(); room > 0 {
		last := ops(30, room/2)
		adds(t, l, last)
		stand(t, d, 0, len(left), 1, and(deeds, last))
	}
}

// H2: sectors outside the log, and those of its deeds, stay as they are.
func TestOutsideStays(t *testing.T) {
	d := made(t, 16)
	for at := range 16 {
		d.Write(at, cSector(uint32(at+4), 0)) // each of them would be a deed of a log in its place
	}
	d.Flush()
	l, deeds := opened(t, d, 4, 3, 8)
	if len(deeds) != 3 || l.Room() != 0 {
		t.Errorf("%s", told(deeds))
	}
	d.Write(5, "")
	l, _ = opened(t, d, 4, 3, 8)
	adds(t, l, nil)
	stand(t, d, 4, 3, 8, [][]api.Op{{}, {}})
	for at := range 16 {
		if s, _ := d.Read(at); at != 6 && s[:10] != cSector(uint32(at+4), 0) {
			t.Errorf("sector %d: %q", at, s)
		}
	}
}

// H1, H2: many deeds, falls and restarts, held against a list of what was added.
func TestDrawn(t *testing.T) {
	r := rand.New(rand.NewPCG(8, 2))
	for range 400 {
		from, many, first := r.IntN(5), 20+r.IntN(100), 1+r.IntN(1000)
		d := made(t, 125)
		l, _ := opened(t, d, from, many, first)
		var there [][]api.Op
		for range 40 {
			next := drawnOps(r, api.MaxOps)
			if len(next) >= many-sectors(there) {
				if err := l.Add(next); err != error(api.ErrFull) {
					t.Fatal(err)
				}
				break
			}
			steps := -1
			if r.IntN(2) == 0 {
				steps = r.IntN(len(next) + 4)
			}
			must := fallAt(t, d, l, next, steps, r.Uint64())
			var deeds [][]api.Op
			l, deeds = opened(t, d, from, many, first)
			if told(deeds) != told(and(there, next)) && (must || told(deeds) != told(there)) {
				t.Fatalf("%s: there were %s, and %s", told(deeds), told(there), told([][]api.Op{next}))
			}
			there = deeds
			stand(t, d, from, many, first, there)
		}
	}
}

// Z2: operations that are handed in are neither kept nor written into, nor what stands behind them read.
func TestOpsNotKept(t *testing.T) {
	d := made(t, 10)
	l, _ := opened(t, d, 0, 10, 1)
	v := []int{1, -1, 1000}
	all := []api.Op{{Kind: api.Put, Name: "a", V: v[:2]}, {Kind: 99}}
	adds(t, l, all[:1])
	if !slices.Equal(v, []int{1, -1, 1000}) || all[1].Kind != 99 || all[0].Kind != api.Put {
		t.Errorf("%v %v", v, all)
	}
	v[0], all[0].Name = 55, "b"
	adds(t, l, ops(2, 1))
	stand(t, d, 0, 10, 1, [][]api.Op{ops(1, 1), ops(2, 1)})
}
