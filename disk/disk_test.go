package disk_test

import (
	"math"
	"math/rand/v2"
	"strings"
	"testing"

	"basiskeep/api"
	"basiskeep/disk"
)

// F1: how many sectors there may be, and that they are noughts.
func TestNew(t *testing.T) {
	for _, n := range []int{1, 2, 100, 199, 200} {
		d := made(t, n)
		if d.Sectors() != n || d.Down() {
			t.Errorf("%d: %d sectors, down %v", n, d.Sectors(), d.Down())
		}
		for at := range n {
			if s, err := d.Read(at); err != nil || s != full("") {
				t.Errorf("%d: sector %d: %q %v", n, at, s, err)
			}
		}
	}
	for _, n := range []int{0, -1, 201, math.MinInt, math.MaxInt} {
		if d, err := disk.New(n); d != nil || told(err) != api.ErrBound {
			t.Errorf("%d: %v %v", n, d, err)
		}
	}
}

// F1: what is written is read, with noughts behind it, and no other sector changes.
func TestWrite(t *testing.T) {
	for _, size := range []int{0, 1, 2, 63, 64} {
		d := made(t, 3)
		long, short := strings.Repeat("\xff", 64), strings.Repeat("z", size)
		writes(t, d, []int{0, 1, 2, 1}, []string{long, long, long, short})
		holds(t, d, long, short, long)
		if err := d.Flush(); err != nil {
			t.Error(err)
		}
		holds(t, d, long, short, long)
	}
	d := made(t, 1)
	writes(t, d, []int{0, 0}, []string{"a\x00\xf0b", "c"})
	holds(t, d, "c")
}

// F1: which error is told, and that a call that tells one changes nothing.
func TestWrong(t *testing.T) {
	d := made(t, 4)
	writes(t, d, []int{3, 0}, []string{"last", "first"})
	for _, at := range []int{-1, 4, 200, math.MinInt, math.MaxInt} {
		if s, err := d.Read(at); s != "" || told(err) != api.ErrBound {
			t.Errorf("Read(%d): %q %v", at, s, err)
		}
		for _, data := range []string{"", "x", strings.Repeat("x", 65)} {
			if err := d.Write(at, data); told(err) != api.ErrBound {
				t.Errorf("Write(%d, %q): %v", at, data, err)
			}
		}
	}
	for _, size := range []int{65, 66, 1000} {
		if err := d.Write(3, strings.Repeat("x", size)); told(err) != api.ErrSize {
			t.Errorf("%d bytes: %v", size, err)
		}
	}
	holds(t, d, "first", "", "", "last")
}

// F1, F2: a disk that is down says so to a Read ahead of all else, to a Write behind all else.
func TestWrongDown(t *testing.T) {
	d := made(t, 2)
	d.Arm(0)
	if err := d.Flush(); told(err) != api.ErrDown {
		t.Error(err)
	}
	fallen(t, d)
	for _, at := range []int{-1, 2} {
		if s, err := d.Read(at); s != "" || told(err) != api.ErrDown {
			t.Errorf("Read(%d): %q %v", at, s, err)
		}
		if err := d.Write(at, "x"); told(err) != api.ErrBound {
			t.Errorf("Write(%d): %v", at, err)
		}
	}
	if err := d.Write(1, strings.Repeat("x", 65)); told(err) != api.ErrSize {
		t.Error(err)
	}
	if d.Sectors() != 2 {
		t.Errorf("%d sectors", d.Sectors())
	}
}

// F2: so many steps are left, and at the next one the disk falls, be it a Write or a Flush.
func TestArm(t *testing.T) {
	for n := range 9 {
		for kinds := range 1 << (n + 1) {
			d := made(t, 2)
			d.Arm(n)
			for i := range n + 1 {
				var err error
				if kinds>>i%2 == 0 {
					err = d.Write(i%2, "x")
				} else {
					err = d.Flush()
				}
				if want := i == n; want != (told(err) == api.ErrDown) || d.Down() != want {
					t.Fatalf("Arm(%d), kinds %b: step %d: %v, down %v", n, kinds, i, err, d.Down())
				}
			}
			fallen(t, d)
		}
	}
}

// F2: what is refused ahead of a step, and what only asks, is no step.
func TestNoStep(t *testing.T) {
	d := made(t, 2)
	d.Arm(1)
	for range 5 {
		d.Write(-1, "x")
		d.Write(2, "x")
		d.Write(0, strings.Repeat("x", 65))
		d.Read(0)
		d.Read(-1)
		d.Sectors()
		d.Down()
	}
	if err := d.Write(0, "y"); err != nil {
		t.Error(err)
	}
	holds(t, d, "y", "")
	for range 3 { // armed, and without a step left, it isn't down, and none of these makes it fall
		if err := d.Write(5, "x"); told(err) != api.ErrBound {
			t.Error(err)
		}
		holds(t, d, "y", "")
	}
	if err := d.Write(0, "z"); told(err) != api.ErrDown {
		t.Error(err)
	}
	fallen(t, d)
}

// F2: armed anew, it is as it is told last; below nought it isn't armed.
func TestArmAnew(t *testing.T) {
	for _, n := range []int{-1, -2, math.MinInt} {
		d := made(t, 1)
		d.Arm(0)
		d.Arm(n)
		for range 200 {
			if d.Write(0, "x") != nil || d.Flush() != nil {
				t.Fatalf("Arm(%d): it fell", n)
			}
		}
	}
	d := made(t, 1)
	d.Arm(5)
	d.Arm(1)
	if err := d.Flush(); err != nil {
		t.Error(err)
	}
	d.Arm(1)
	if err := d.Flush(); err != nil {
		t.Error(err)
	}
	if err := d.Flush(); told(err) != api.ErrDown {
		t.Error(err)
	}
	d.Arm(3)
	fallen(t, d)
	d.Arm(-1)
	fallen(t, d)
	d.Restart(0)
	holds(t, d, "")
	d.Arm(math.MaxInt)
	if err := d.Flush(); err != nil {
		t.Error(err)
	}
}

// F2, F3: what was flushed stays, what was not is lost, and so is what fell itself.
func TestKept(t *testing.T) {
	d := made(t, 3)
	writes(t, d, []int{0, 1}, []string{"a", "b"})
	if err := d.Flush(); err != nil {
		t.Error(err)
	}
	writes(t, d, []int{1, 2}, []string{"c", "d"})
	holds(t, d, "a", "c", "d")
	d.Restart(0)
	holds(t, d, "a", "b", "")

	d.Arm(1)
	writes(t, d, []int{0}, []string{"e"})
	if err := d.Write(1, "f"); told(err) != api.ErrDown {
		t.Error(err)
	}
	d.Write(2, "g")
	d.Restart(every)
	holds(t, d, "e", "b", "")

	writes(t, d, []int{0}, []string{"h"})
	d.Arm(0)
	if err := d.Flush(); told(err) != api.ErrDown {
		t.Error(err)
	}
	d.Restart(0)
	holds(t, d, "e", "b", "")
}

// F3: each of the writes that aren't kept may be, whichever others are; the last one of a sector's that is stands.
func TestRestart(t *testing.T) {
	at := []int{0, 1, 0, 2, 1, 0}
	data := []string{"a", "b", "c", "d", "e", "f"}
	for keep := range uint64(1 << len(at)) {
		d := made(t, 3)
		writes(t, d, []int{0, 1, 2}, []string{"x", "y", "z"})
		d.Flush()
		writes(t, d, at, data)
		want := []string{"x", "y", "z"}
		for i := range at {
			if keep>>i&1 == 1 {
				want[at[i]] = data[i]
			}
		}
		d.Restart(keep)
		holds(t, d, want...)
		d.Restart(every) // there is nothing more to keep
		holds(t, d, want...)
		d.Restart(0) // nor to lose
		holds(t, d, want...)
	}
}

// F3: numbers are from 0 on behind a Flush, and behind a restart; what was refused has none.
func TestNumbersAnew(t *testing.T) {
	d := made(t, 2)
	writes(t, d, []int{0, 0, 0}, []string{"a", "b", "c"})
	d.Flush()
	writes(t, d, []int{0, 1}, []string{"d", "e"})
	d.Restart(1)
	holds(t, d, "d", "")
	writes(t, d, []int{0, 1}, []string{"f", "g"})
	d.Restart(2)
	holds(t, d, "d", "g")
	d.Write(2, "x")
	d.Write(0, strings.Repeat("x", 65))
	writes(t, d, []int{0}, []string{"h"})
	d.Write(-1, "x")
	writes(t, d, []int{1}, []string{"i"})
	d.Restart(1)
	holds(t, d, "h", "g")
	d.Arm(1)
	writes(t, d, []int{0}, []string{"j"})
	d.Flush()
	d.Restart(1)
	holds(t, d, "j", "g")
}

// F3: numbers are told modulo 64.
func TestNumbersModulo(t *testing.T) {
	for _, many := range []int{63, 64, 65, 100, 128, 129, 200, 1000} {
		for bit := range 64 {
			d := made(t, 2)
			want := []string{"", ""}
			for i := range many {
				data := string([]byte{byte(i), byte(i >> 8), 1})
				writes(t, d, []int{i / 3 % 2}, []string{data})
				if i%64 == bit {
					want[i/3%2] = data
				}
			}
			d.Restart(1 << bit)
			holds(t, d, want...)
		}
	}
}

// F3: behind a restart it isn't down, and not armed, whether it fell or not.
func TestRestartUp(t *testing.T) {
	for _, falls := range []bool{false, true} {
		d := made(t, 1)
		d.Arm(0)
		if falls {
			d.Flush()
		}
		if d.Down() != falls {
			t.Errorf("down: %v", d.Down())
		}
		d.Restart(every)
		for range 5 {
			if err := d.Flush(); err != nil {
				t.Error(err)
			}
		}
		holds(t, d, "")
	}
}

// Z2: disks have nothing in common.
func TestApart(t *testing.T) {
	a, b := made(t, 2), made(t, 2)
	writes(t, a, []int{0}, []string{"a"})
	writes(t, b, []int{1}, []string{"b"})
	a.Arm(0)
	a.Flush()
	fallen(t, a)
	holds(t, b, "", "b")
	a.Restart(0)
	holds(t, a, "", "")
	holds(t, b, "", "b")
}

// drawn: any act, done to a disk and to the plain one; the same is answered.
func drawn(t *testing.T, r *rand.Rand, d *disk.Disk, p *plain) {
	t.Helper()
	n := d.Sectors()
	switch r.IntN(12) {
	default:
		at := r.IntN(n)
		if r.IntN(20) == 0 {
			at = []int{-1, n}[r.IntN(2)]
		}
		data := strings.Repeat(string([]byte{byte(r.IntN(256))}), []int{0, 1, 2, 63, 64, 65}[r.IntN(6)])
		if got, want := told(d.Write(at, data)), p.write(at, data); got != want {
			t.Fatalf("Write(%d, %q): %v, wanted %v", at, data, got, want)
		}
	case 0:
		if r.IntN(8) == 0 {
			if got, want := told(d.Flush()), p.flush(); got != want {
				t.Fatalf("Flush: %v, wanted %v", got, want)
			}
		}
	case 1:
		n := r.IntN(200) - 3
		d.Arm(n)
		p.arm(n)
	case 2:
		if r.IntN(8) == 0 || p.down {
			keep := r.Uint64()
			d.Restart(keep)
			p.restart(keep)
		}
	}
}

// F1 to F3: many acts, held against another way to do them.
func TestDrawn(t *testing.T) {
	r := rand.New(rand.NewPCG(6, 1))
	for range 60 {
		n := 1 + r.IntN(5)
		d, p := made(t, n), &plain{kept: make([]string, n)}
		for at := range n {
			p.kept[at] = full("")
		}
		for range 800 {
			drawn(t, r, d, p)
			if d.Down() != p.down {
				t.Fatalf("down: %v, wanted %v", d.Down(), p.down)
			}
			for at := -1; at <= n; at++ {
				got, err := d.Read(at)
				if want, e := p.read(at); got != want || told(err) != e {
					t.Fatalf("sector %d: %q %v, wanted %q %v", at, got, err, want, e)
				}
			}
		}
	}
}
