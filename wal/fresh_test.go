package wal_test

import (
	"math"
	"math/rand/v2"
	"slices"
	"testing"

	"basiskeep/api"
	"basiskeep/wal"
)

// fresh: a number that may be asked for.
func fresh(t *testing.T, all []string, from, many, number int) int {
	t.Helper()
	d := made(t, 20)
	lay(t, d, 0, all...)
	before := image(t, d)
	first, err := wal.Fresh(d, from, many, number)
	if err != nil || first < 1 || image(t, d) != before {
		t.Fatalf("Fresh(%d, %d, %d): %d %v", from, many, number, first, err)
	}
	return first
}

// The next number with which no sector has its own, whatever else it has.
func TestFresh(t *testing.T) {
	for _, x := range []struct {
		what                string
		all                 []string
		from, number, first int
	}{
		{"nothing", nil, 0, 1, 1},
		{"nothing, from another number on", nil, 0, 500, 500},
		{"a number that is taken", []string{cSector(7, 0)}, 0, 7, 8},
		{"one that isn't", []string{cSector(7, 0)}, 0, 6, 6},
		{"of the second sector", []string{"", cSector(8, 0)}, 0, 7, 8},
		{"of another place", []string{"", cSector(7, 0)}, 0, 7, 7},
		{"three", []string{cSector(7, 0), oSector(9, op(1)), cSector(11, 9)}, 0, 7, 10},
		{"with a hole", []string{cSector(7, 0), oSector(9, op(1)), cSector(12, 9)}, 0, 7, 9},
		{"ahead of the log", []string{cSector(7, 0), "", ""}, 1, 7, 7},
		{"behind the log", []string{"", "", "", "", "", cSector(12, 0)}, 0, 7, 7},
		{"the last one of the log", []string{"", "", "", "", cSector(11, 0)}, 0, 7, 8},
		{"of any kind", []string{laid('x', 7, "")}, 0, 7, 8},
		{"round", []string{cSector(math.MaxUint32, 0)}, 0, math.MaxUint32, 1},
		{"round, and one more", []string{cSector(math.MaxUint32, 0), cSector(2, 0)}, 0, math.MaxUint32, 2},
		{"never nought", []string{cSector(9, 0)}, 0, 1 << 32, 1},
		{"a greater number", []string{cSector(7, 0)}, 0, 7 + 5<<32, 8},
	} {
		if first := fresh(t, x.all, x.from, 5, x.number); first != x.first {
			t.Errorf("%s: %d, wanted %d", x.what, first, x.first)
		}
	}
}

// A log that is opened with such a number has no deeds, and none but those that are added to it.
func TestFreshLog(t *testing.T) {
	r := rand.New(rand.NewPCG(8, 9))
	for range 2000 {
		var all []string
		for i := range 8 {
			number := uint32(1 + i + r.IntN(4))
			all = append(all, []string{oSector(number, op(i)), cSector(number, r.IntN(3))}[r.IntN(2)])
		}
		d := made(t, 8)
		lay(t, d, 0, all...)
		first, err := wal.Fresh(d, 0, 8, 1)
		if err != nil {
			t.Fatal(err)
		}
		stand(t, d, 0, 8, first, nil)
		for i, s := range all {
			if slices.Contains([]string{oSector(uint32(first+i), op(i)), cSector(uint32(first+i), 0)}, s) {
				t.Fatalf("%d: %q", first, all)
			}
		}
		l, _ := opened(t, d, 0, 8, first)
		adds(t, l, ops(1, 2), nil)
		stand(t, d, 0, 8, first, [][]api.Op{ops(1, 2), nil})
	}
}

// Errors as those of Open.
func TestFreshWrong(t *testing.T) {
	d := made(t, 10)
	wrong := [][3]int{{-1, 5, 1}, {0, 0, 1}, {0, -1, 1}, {0, 5, 0}, {0, 5, -1}, {0, 11, 1}, {10, 1, 1}, {math.MaxInt, 1, 1}, {1, math.MaxInt, 1}}
	for range 2 {
		for _, x := range wrong {
			if n, err := wal.Fresh(d, x[0], x[1], x[2]); n != 0 || err != error(api.ErrBound) {
				t.Errorf("%v: %d %v", x, n, err)
			}
		}
		d.Arm(0)
		d.Flush()
	}
	if n, err := wal.Fresh(d, 0, 10, 1); n != 0 || err != error(api.ErrDown) {
		t.Errorf("%d %v", n, err)
	}
}
