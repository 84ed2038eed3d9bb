package disk_test

import (
	"strings"
	"testing"

	"basiskeep/api"
	"basiskeep/disk"
)

// every bit: all writes are kept.
const every = ^uint64(0)

// made: a disk of n sectors.
func made(t *testing.T, n int) *disk.Disk {
	t.Helper()
	d, err := disk.New(n)
	if err != nil {
		t.Fatalf("New(%d): %v", n, err)
	}
	return d
}

// full: a sector that begins with s, noughts behind it.
func full(s string) string { return s + strings.Repeat("\x00", 64-len(s)) }

// told: what a call answered.
func told(err error) api.Errno {
	if err == nil {
		return api.OK
	}
	return err.(api.Errno)
}

// writes in order, none of which may be refused: the places, and what is written there.
func writes(t *testing.T, d *disk.Disk, at []int, data []string) {
	t.Helper()
	for i := range at {
		if err := d.Write(at[i], data[i]); err != nil {
			t.Fatalf("write %d: %v", i, err)
		}
	}
}

// holds: the disk isn't down, and its first sectors are these.
func holds(t *testing.T, d *disk.Disk, want ...string) {
	t.Helper()
	if d.Down() {
		t.Errorf("it is down")
	}
	for at, s := range want {
		if got, err := d.Read(at); err != nil || got != full(s) {
			t.Errorf("sector %d: %q %v, wanted %q", at, got, err, s)
		}
	}
}

// fallen: the disk is down, and says so to all.
func fallen(t *testing.T, d *disk.Disk) {
	t.Helper()
	if !d.Down() {
		t.Errorf("it isn't down")
	}
	if s, err := d.Read(0); s != "" || told(err) != api.ErrDown {
		t.Errorf("Read: %q %v", s, err)
	}
	if err := d.Write(0, "x"); told(err) != api.ErrDown {
		t.Errorf("Write: %v", err)
	}
	if err := d.Flush(); told(err) != api.ErrDown {
		t.Errorf("Flush: %v", err)
	}
}

// plain: a disk as a list of all writes that aren't kept: another way to do the same.
type plain struct {
	kept  []string
	loose []struct {
		at   int
		data string
	}
	armed, down bool
	left        int
}

// now: the sectors, as far as those writes are kept.
func (p *plain) now(keep func(int) bool) []string {
	out := append([]string{}, p.kept...)
	for i, w := range p.loose {
		if keep(i) {
			out[w.at] = full(w.data)
		}
	}
	return out
}

func (p *plain) read(at int) (string, api.Errno) {
	switch {
	case p.down:
		return "", api.ErrDown
	case at < 0 || at >= len(p.kept):
		return "", api.ErrBound
	}
	return p.now(func(int) bool { return true })[at], api.OK
}

func (p *plain) step() api.Errno {
	p.down = p.down || p.armed && p.left == 0
	if p.down {
		return api.ErrDown
	}
	p.left--
	return api.OK
}

func (p *plain) write(at int, data string) api.Errno {
	if at < 0 || at >= len(p.kept) {
		return api.ErrBound
	}
	if len(data) > 64 {
		return api.ErrSize
	}
	e := p.step()
	if e == api.OK {
		p.loose = append(p.loose, struct {
			at   int
			data string
		}{at, data})
	}
	return e
}

func (p *plain) flush() api.Errno {
	e := p.step()
	if e == api.OK {
		p.kept, p.loose = p.now(func(int) bool { return true }), nil
	}
	return e
}

func (p *plain) arm(n int) { p.armed, p.left = n >= 0, n }

func (p *plain) restart(keep uint64) {
	p.kept, p.loose = p.now(func(i int) bool { return keep>>(i%64)%2 == 1 }), nil
	p.armed, p.down = false, false
}
