package pack_test

import (
	"math"
	"math/rand/v2"
	"slices"
	"strings"
	"testing"

	"basiskeep/api"
	"basiskeep/pack"
)

// G3: operations, and their bytes.
func TestOp(t *testing.T) {
	for _, x := range []struct {
		o    api.Op
		want string
	}{
		{api.Op{Kind: api.Create, Name: "a", N: 2}, "\x01\x01a\x02\x00"},
		{api.Op{Kind: api.Drop, Name: "b9"}, "\x02\x02b9\x00\x00"},
		{api.Op{Kind: api.Put, Name: "abcdefgh", V: []int{1}}, "\x03\x08abcdefgh\x00\x01\x01\x00"},
		{api.Op{Kind: api.Take, Name: "a", V: []int{-1, 256}}, "\x04\x01a\x00\x02\xff\xff\x00\x01"},
		{api.Op{Kind: api.Put, Name: "a", V: []int{999, -999, 0, 255}}, "\x03\x01a\x00\x04\xe7\x03\x19\xfc\x00\x00\xff\x00"},
		{api.Op{Kind: api.Drop, Name: "a", N: 4, V: []int{-256, 128}}, "\x02\x01a\x04\x02\x00\xff\x80\x00"},
		{api.Op{Kind: api.Create, Name: "a"}, "\x01\x01a\x00\x00"},
		{api.Op{Kind: api.Put, Name: "a", V: []int{}}, "\x03\x01a\x00\x00"},
	} {
		got, err := pack.Op(x.o)
		if err != nil || got != x.want {
			t.Errorf("%v: %q %v, wanted %q", x.o, got, err, x.want)
		}
		o, err := pack.Unop(x.want)
		if err != nil || !same(o, x.o) {
			t.Errorf("%q: %v %v, wanted %v", x.want, o, err, x.o)
		}
	}
}

// G3: operations that have no bytes; their shape is told ahead of their numbers.
func TestNoBytes(t *testing.T) {
	five, far := []int{1, 2, 3, 4, 5}, []int{1000}
	for _, x := range []struct {
		o    api.Op
		want api.Errno
	}{
		{api.Op{}, api.ErrShape},
		{api.Op{Kind: 0, Name: "a"}, api.ErrShape},
		{api.Op{Kind: 5, Name: "a", V: far}, api.ErrShape},
		{api.Op{Kind: -1, Name: "a"}, api.ErrShape},
		{api.Op{Kind: 257, Name: "a"}, api.ErrShape},
		{api.Op{Kind: math.MinInt, Name: "a"}, api.ErrShape},
		{api.Op{Kind: 1, Name: ""}, api.ErrShape},
		{api.Op{Kind: 1, Name: "A", V: far}, api.ErrShape},
		{api.Op{Kind: 1, Name: "9"}, api.ErrShape},
		{api.Op{Kind: 1, Name: "ninebytes"}, api.ErrShape},
		{api.Op{Kind: 1, Name: strings.Repeat("a", 257)}, api.ErrShape},
		{api.Op{Kind: 1, Name: "a", N: -1}, api.ErrShape},
		{api.Op{Kind: 1, Name: "a", N: 5, V: far}, api.ErrShape},
		{api.Op{Kind: 1, Name: "a", N: 257}, api.ErrShape},
		{api.Op{Kind: 1, Name: "a", N: math.MaxInt}, api.ErrShape},
		{api.Op{Kind: 3, Name: "a", V: five}, api.ErrShape},
		{api.Op{Kind: 3, Name: "a", V: append(far, five...)}, api.ErrShape},
		{api.Op{Kind: 3, Name: "a", V: make([]int, 256)}, api.ErrShape},
		{api.Op{Kind: 3, Name: "a", V: far}, api.ErrBound},
		{api.Op{Kind: 3, Name: "a", V: []int{-1000}}, api.ErrBound},
		{api.Op{Kind: 4, Name: "a", V: []int{1, 2, 3, 1000}}, api.ErrBound},
		{api.Op{Kind: 1, Name: "a", V: []int{1 << 16}}, api.ErrBound},
		{api.Op{Kind: 2, Name: "a", V: []int{999, math.MinInt, 0}}, api.ErrBound},
	} {
		if s, err := pack.Op(x.o); s != "" || err != error(x.want) {
			t.Errorf("%v: %q %v, wanted %v", x.o, s, err, x.want)
		}
	}
}

// G3: bytes that are no operation's.
func TestNoOp(t *testing.T) {
	for _, s := range []string{
		"", "\x01", "\x01\x01", "\x01\x01a", "\x01\x01a\x02",
		"\x01\x01a\x02\x00\x00", "\x01\x00\x02\x00", "\x01\x02a\x02\x00", "\x01\x01ab\x02\x00",
		"\x00\x01a\x02\x00", "\x05\x01a\x02\x00", "\xff\x01a\x02\x00",
		"\x01\x01A\x02\x00", "\x01\x019\x02\x00", "\x01\x01\x00\x02\x00", "\x01\x09ninebytes\x02\x00",
		"\x01\x01a\x05\x00", "\x01\x01a\xff\x00", "\x01\xffa\x02\x00",
		"\x03\x01a\x00\x01", "\x03\x01a\x00\x01\x00", "\x03\x01a\x00\x01\x00\x00\x00", "\x03\x01a\x00\x00\x00\x00",
		"\x03\x01a\x00\x01\xe8\x03", "\x03\x01a\x00\x01\x18\xfc", "\x03\x01a\x00\x01\x00\x80", "\x03\x01a\x00\x01\xff\x7f",
		"\x03\x01a\x00\x05\x00\x00\x00\x00\x00\x00\x00\x00\x00\x00", "\x03\x01a\x00\xff",
		"\x03\x01a\x00\xff" + strings.Repeat("\x00", 510),
		"\x01\xff" + strings.Repeat("a", 255) + "\x00\x00",
		strings.Repeat("\x01", 1<<20), strings.Repeat("\x00", 64),
	} {
		noOp(t, s)
	}
}

// G3: each number from -MaxEntry to MaxEntry has two bytes of its own, and no other two are one.
func TestNumbers(t *testing.T) {
	read := 0
	for two := range 1 << 16 {
		s := string([]byte{3, 1, 'a', 0, 1, byte(two), byte(two >> 8)})
		n := two
		if n >= 1<<15 {
			n -= 1 << 16
		}
		if n < -999 || n > 999 {
			noOp(t, s)
			continue
		}
		read++
		want := api.Op{Kind: 3, Name: "a", V: []int{n}}
		if o, err := pack.Unop(s); err != nil || !same(o, want) {
			t.Errorf("%q: %v %v, wanted %v", s, o, err, want)
		}
		if got, err := pack.Op(want); err != nil || got != s {
			t.Errorf("%v: %q %v, wanted %q", want, got, err, s)
		}
	}
	if read != 2*999+1 {
		t.Errorf("%d were read", read)
	}
}

// G3: what is written is read; with a byte changed, one less or one more it is read as what it then is, or not.
func TestBytes(t *testing.T) {
	r := rand.New(rand.NewPCG(7, 3))
	read := 0
	for range 300 {
		o := drawnOp(r)
		s, err := pack.Op(o)
		if err != nil || len(s) != 4+len(o.Name)+2*len(o.V) {
			t.Fatalf("%v: %q %v", o, s, err)
		}
		if back, err := pack.Unop(s); err != nil || !same(back, o) {
			t.Fatalf("%v: %q: %v %v", o, s, back, err)
		}
		for k := range len(s) {
			noOp(t, s[:k])
			changed := []byte(s)
			changed[k] ^= 1 << r.IntN(8)
			x, err := pack.Unop(string(changed))
			if err != nil {
				noOp(t, string(changed))
				continue
			}
			read++
			if back, err := pack.Op(x); err != nil || back != string(changed) {
				t.Fatalf("%q: %v: %q %v", changed, x, back, err)
			}
		}
		noOp(t, s+string([]byte{byte(r.IntN(256))}))
	}
	if read < 300 {
		t.Errorf("%d changed bytes were read: too few to tell", read)
	}
}

// Z2: a list that is handed in is neither kept nor written into, nor what stands behind it read; what comes out is fresh.
func TestOpMemory(t *testing.T) {
	v := []int{1, -2, 1000, 7, 7, 7}
	o := api.Op{Kind: 3, Name: "a", V: v[:2]}
	s, err := pack.Op(o)
	if err != nil || !slices.Equal(v, []int{1, -2, 1000, 7, 7, 7}) {
		t.Errorf("%q %v: %v", s, err, v)
	}
	a, _ := pack.Unop(s)
	b, _ := pack.Unop(s)
	for i := range a.V[:cap(a.V)] {
		a.V[:cap(a.V)][i] = 9
	}
	if again, _ := pack.Op(b); again != s {
		t.Errorf("%v, wanted %v", b, o)
	}
}
