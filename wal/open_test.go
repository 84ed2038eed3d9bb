package wal_test

import (
	"math"
	"math/rand/v2"
	"strings"
	"testing"

	"basiskeep/api"
	"basiskeep/wal"
)

// H1: which sectors a log may have.
func TestBounds(t *testing.T) {
	d := made(t, 10)
	for _, x := range [][3]int{{0, 10, 1}, {9, 1, 1}, {0, 1, 1}, {3, 7, 2}, {0, 10, math.MaxInt - 20}} {
		stand(t, d, x[0], x[1], x[2], nil)
	}
	for _, x := range [][3]int{
		{-1, 5, 1}, {math.MinInt, 5, 1}, {0, 0, 1}, {0, -1, 1}, {0, math.MinInt, 1}, {0, 5, 0}, {0, 5, -1}, {0, 5, math.MinInt},
		{0, 11, 1}, {10, 1, 1}, {9, 2, 1}, {5, 6, 1}, {11, 1, 1}, {math.MaxInt, 1, 1}, {1, math.MaxInt, 1}, {math.MaxInt, math.MaxInt, 1},
		{-1, 11, 1}, {-1, math.MaxInt, 1}, {math.MinInt, math.MaxInt, 1}, {10, 0, 1},
	} {
		if l, deeds, err := wal.Open(d, x[0], x[1], x[2]); l != nil || len(deeds) != 0 || err != error(api.ErrBound) {
			t.Errorf("%v: %v %v %v", x, l, deeds, err)
		}
	}
}

// H1: the disk's error, behind that of the bounds.
func TestOpenDown(t *testing.T) {
	d := made(t, 10)
	lay(t, d, 0, oSector(1, op(1)), cSector(2, 1))
	d.Arm(0)
	stand(t, d, 0, 10, 1, [][]api.Op{ops(1, 1)}) // to open is no step
	d.Flush()
	if l, deeds, err := wal.Open(d, 0, 10, 1); l != nil || len(deeds) != 0 || err != error(api.ErrDown) {
		t.Errorf("%v %v %v", l, deeds, err)
	}
	for _, x := range [][3]int{{0, 11, 1}, {-1, 5, 1}, {0, 0, 1}, {0, 5, 0}} {
		if l, deeds, err := wal.Open(d, x[0], x[1], x[2]); l != nil || len(deeds) != 0 || err != error(api.ErrBound) {
			t.Errorf("%v: %v %v %v", x, l, deeds, err)
		}
	}
	d.Restart(0)
	stand(t, d, 0, 10, 1, [][]api.Op{ops(1, 1)})
}

// H1: deeds that were laid by hand; up to which sector they stand.
func TestStand(t *testing.T) {
	a, b, c := op(1), op(2), api.Op{Kind: api.Create, Name: "abcdefgh", N: 4}
	rest := strings.Repeat("\xff", 40)
	for _, x := range []struct {
		what string
		all  []string
		want [][]api.Op
	}{
		{"nothing", nil, nil},
		{"an operation that isn't closed", []string{oSector(7, a)}, nil},
		{"one", []string{oSector(7, a), cSector(8, 1)}, [][]api.Op{{a}}},
		{"an empty one", []string{cSector(7, 0)}, [][]api.Op{{}}},
		{"three", []string{oSector(7, a), oSector(8, c), cSector(9, 2), cSector(10, 0), oSector(11, b), cSector(12, 1)}, [][]api.Op{{a, c}, {}, {b}}},
		{"one, and an operation", []string{oSector(7, a), cSector(8, 1), oSector(9, b)}, [][]api.Op{{a}}},
		{"anything behind the bytes", []string{oSector(7, a) + rest, cSector(8, 1) + rest}, [][]api.Op{{a}}},
		{"a hole", []string{oSector(7, a), "", oSector(9, b), cSector(10, 2)}, nil},
		{"a hole behind one", []string{cSector(7, 0), "", cSector(9, 0)}, [][]api.Op{{}}},
		{"another kind", []string{oSector(7, a), laid('x', 8, low(1))}, nil},
		{"another kind, of an operation", []string{cSector(7, 0), laid('O', 8, oSector(8, a)[6:]), cSector(9, 1)}, [][]api.Op{{}}},
		{"a number less", []string{oSector(6, a), cSector(8, 1)}, nil},
		{"a number more", []string{oSector(7, a), cSector(9, 1)}, nil},
		{"a number in other bytes", []string{oSector(7<<8, a), cSector(8, 1)}, nil},
		{"a number and 2^24", []string{oSector(7, a), cSector(8+1<<24, 1)}, nil},
		{"a count less", []string{oSector(7, a), oSector(8, b), cSector(9, 1)}, nil},
		{"a count more", []string{cSector(7, 0), oSector(8, a), cSector(9, 2), cSector(10, 0)}, [][]api.Op{{}}},
		{"a count of all", []string{oSector(7, a), cSector(8, 1), oSector(9, b), cSector(10, 2)}, [][]api.Op{{a}}},
		{"a count and 2^24", []string{oSector(7, a), cSector(8, 1+1<<24)}, nil},
		{"a count of three bytes", []string{oSector(7, a), laid('c', 8, "\x01\x00\x00")}, nil},
		{"a count of five bytes", []string{oSector(7, a), laid('c', 8, "\x01\x00\x00\x00\x00")}, nil},
		{"no count", []string{laid('c', 7, "")}, nil},
		{"no operation's bytes", []string{cSector(7, 0), laid('o', 8, "\x05\x01a\x00\x00"), cSector(9, 1)}, [][]api.Op{{}}},
		{"an operation's bytes, and one more", []string{oSector(7, a)[:5] + "\x0a" + oSector(7, a)[6:], cSector(8, 1)}, nil},
		{"an operation without bytes", []string{laid('o', 7, ""), cSector(8, 1)}, nil},
		{"58 bytes", []string{laid('o', 7, strings.Repeat("a", 58)), cSector(8, 1)}, nil},
		{"more bytes than there is room for", []string{oSector(7, a)[:5] + "\x3b" + oSector(7, a)[6:], cSector(8, 1)}, nil},
		{"255 bytes", []string{"c" + low(7) + "\xff" + low(0)}, nil},
		{"an operation that a catalog would refuse", []string{oSector(7, api.Op{Kind: api.Drop, Name: "a", N: 3, V: []int{9}}), cSector(8, 1)}, [][]api.Op{{{Kind: api.Drop, Name: "a", N: 3, V: []int{9}}}}},
	} {
		for _, from := range []int{0, 3, 8} {
			t.Run(x.what, func(t *testing.T) {
				d := made(t, 20)
				lay(t, d, from, x.all...)
				before := image(t, d)
				stand(t, d, from, 12, 7, x.want)
				if image(t, d) != before {
					t.Errorf("Open wrote to the disk")
				}
			})
		}
	}
}

// H1: a log ends with its last sector, whatever stands behind it.
func TestEnd(t *testing.T) {
	d := made(t, 10)
	lay(t, d, 2, oSector(5, op(1)), cSector(6, 1), oSector(7, op(2)), cSector(8, 1), cSector(9, 0))
	stand(t, d, 2, 5, 5, [][]api.Op{ops(1, 1), ops(2, 1), {}})
	stand(t, d, 2, 4, 5, [][]api.Op{ops(1, 1), ops(2, 1)})
	stand(t, d, 2, 3, 5, [][]api.Op{ops(1, 1)})
	stand(t, d, 2, 2, 5, [][]api.Op{ops(1, 1)})
	stand(t, d, 2, 1, 5, nil)
	stand(t, d, 4, 3, 7, [][]api.Op{ops(2, 1), {}})
	stand(t, d, 4, 3, 5, nil)
	stand(t, d, 2, 5, 4, nil)
}

// H1: a deed on the disk may have more operations than may be added.
func TestLongDeed(t *testing.T) {
	d := made(t, 20)
	var all []string
	for i := range 15 {
		all = append(all, oSector(uint32(1+i), op(i)))
	}
	lay(t, d, 0, append(all, cSector(16, 15))...)
	stand(t, d, 0, 20, 1, [][]api.Op{ops(0, 15)})
}

// H1: numbers of sectors are told modulo 2 to the power 32.
func TestNumberModulo(t *testing.T) {
	for _, first := range []int{1, 255, 256, 1<<32 - 2, 1<<32 - 1, 1 << 32, 1<<32 + 1, 5 << 40, math.MaxInt - 300} {
		d := made(t, 10)
		l, _ := opened(t, d, 1, 8, first)
		adds(t, l, ops(1, 2), nil, ops(3, 1))
		for i := range 6 {
			s, _ := d.Read(1 + i)
			if s[1:5] != low(uint32(first+i)) {
				t.Errorf("first %d: sector %d: %q", first, i, s)
			}
		}
		stand(t, d, 1, 8, first, [][]api.Op{ops(1, 2), {}, ops(3, 1)})
		if first < 1<<40 {
			stand(t, d, 1, 8, first+1<<32, [][]api.Op{ops(1, 2), {}, ops(3, 1)})
		}
		stand(t, d, 1, 8, first+1, nil)
		stand(t, d, 1, 8, first+1<<8, nil)
	}
}

// H1, Z1: any bytes on the sectors.
func TestAnyBytes(t *testing.T) {
	r := rand.New(rand.NewPCG(8, 1))
	for range 3000 {
		d := made(t, 6)
		for i := range 6 {
			s := []byte([]string{oSector(uint32(1+i), op(i)), cSector(uint32(1+i), r.IntN(3))}[r.IntN(2)])
			for range r.IntN(3) {
				s[r.IntN(len(s))] = byte(r.IntN(256))
			}
			if err := d.Write(i, string(s)); err != nil {
				t.Fatal(err)
			}
		}
		l, deeds := opened(t, d, 0, 6, 1)
		if l.Room() != 6-sectors(deeds) {
			t.Fatalf("room %d with %s", l.Room(), told(deeds))
		}
	}
}

// Z2: deeds that come out are the caller's.
func TestDeedsFresh(t *testing.T) {
	d := made(t, 10)
	l, _ := opened(t, d, 0, 10, 1)
	want := [][]api.Op{ops(1, 2), ops(3, 3), {}}
	adds(t, l, want...)
	_, deeds := opened(t, d, 0, 10, 1)
	for i := range deeds {
		behind := told(deeds[i+1:])
		for j := range deeds[i] {
			rest := told([][]api.Op{deeds[i][j+1:]})
			v := deeds[i][j].V
			for k := range v[:cap(v)] {
				v[:cap(v)][k] = 77
			}
			if told([][]api.Op{deeds[i][j+1:]}) != rest {
				t.Errorf("two operations share memory")
			}
		}
		all := deeds[i][:cap(deeds[i])]
		for j := range all {
			all[j] = api.Op{Name: "spoiled"}
		}
		if told(deeds[i+1:]) != behind {
			t.Errorf("two deeds share memory")
		}
	}
	stand(t, d, 0, 10, 1, want)
}
