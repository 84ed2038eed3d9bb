package pack_test

import (
	"math"
	"testing"

	"basiskeep/pack"
)

// Four bytes of a number, and the number of four bytes, or of fewer, or of more.
func TestFour(t *testing.T) {
	for _, x := range []struct {
		n uint32
		s string
	}{
		{0, "\x00\x00\x00\x00"}, {1, "\x01\x00\x00\x00"}, {255, "\xff\x00\x00\x00"}, {256, "\x00\x01\x00\x00"},
		{0x01020304, "\x04\x03\x02\x01"}, {math.MaxUint32, "\xff\xff\xff\xff"}, {1 << 31, "\x00\x00\x00\x80"},
	} {
		if s := pack.Four(x.n); s != x.s {
			t.Errorf("%d: %q", x.n, s)
		}
		if n := pack.Number(x.s); n != x.n {
			t.Errorf("%q: %d", x.s, n)
		}
		if n := pack.Number(x.s + "\xff"); n != x.n {
			t.Errorf("%q and more: %d", x.s, n)
		}
	}
	for i, want := range []uint32{0, 4, 0x0304, 0x020304, 0x01020304} {
		if n := pack.Number("\x04\x03\x02\x01"[:i]); n != want {
			t.Errorf("%d bytes: %d", i, n)
		}
	}
}
