package store

import (
	"strings"

	"basiskeep/api"
	"basiskeep/disk"
	"basiskeep/pack"
)

// Where things stand on a disk: heads, the areas of their texts, the log.
const (
	heads   = 2  // one that holds, and one that is being laid
	area    = 40 // sectors: the greatest catalog's text, of 1768 bytes, has room
	logFrom = heads + heads*area
)

// mark of a head, so that what somebody else wrote isn't taken for one.
const mark = "basiskeep"

// head of a catalog that was laid as a whole, on the sector of its place.
type head struct {
	at    int    // its place among the heads
	age   uint32 // one more than that of the one ahead of it, and round
	first uint32 // the number of the log's first sector
	long  uint32 // bytes of the catalog's text
}

// newest head on a disk; false: there is none.
func newest(d *disk.Disk) (head, bool, error) {
	var top head
	found := false
	for at := range heads {
		s, err := d.Read(at)
		if err != nil {
			return head{}, false, err
		}
		h, is := unpacked(s)
		h.at = at
		// ages go round: which one is ahead, the sign of their difference tells
		if is && (!found || int32(h.age-top.age) > 0) {
			top, found = h, true
		}
	}
	return top, found, nil
}

// packed: the bytes of a head.
func (h head) packed() string {
	return mark + pack.Four(h.age) + pack.Four(h.first) + pack.Four(h.long)
}

// unpacked: the head that a sector has; false: it has none.
func unpacked(s string) (head, bool) {
	if !strings.HasPrefix(s, mark) {
		return head{}, false
	}
	s = s[len(mark):]
	h := head{age: pack.Number(s), first: pack.Number(s[4:]), long: pack.Number(s[8:])}
	return h, h.first > 0 && h.long <= area*api.Sector
}

// write a head, and keep it.
func (h head) write(d *disk.Disk) error {
	if err := d.Write(h.at, h.packed()); err != nil {
		return err
	}
	return d.Flush()
}

// from: the first sector of its text.
func (h head) from() int { return heads + h.at*area }

// writeText of a head's catalog, and keep it (so that a head is never kept without it), and all that was written ahead.
func (h head) writeText(d *disk.Disk, text string) error {
	for at := h.from(); text != ""; at++ {
		long := min(len(text), api.Sector)
		if err := d.Write(at, text[:long]); err != nil {
			return err
		}
		text = text[long:]
	}
	return d.Flush()
}

// readText of a head's catalog.
func (h head) readText(d *disk.Disk) (string, error) {
	var text strings.Builder
	long := int(h.long)
	for at := h.from(); text.Len() < long; at++ {
		s, err := d.Read(at)
		if err != nil {
			return "", err
		}
		text.WriteString(s[:min(len(s), long-text.Len())])
	}
	return text.String(), nil
}
