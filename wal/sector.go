package wal

import (
	"basiskeep/api"
	"basiskeep/pack"
)

// Kinds of sectors that are written.
const (
	operation = 'o'
	closing   = 'c'
)

// head: bytes ahead of a sector's body: its kind, its number, how long the body is.
const head = 6

// read the i-th sector of a log: its kind and its body; of one that isn't written the kind is nought.
func (l *Log) read(i int) (byte, string, error) {
	s, err := l.on.Read(l.from + i)
	if err != nil {
		return 0, "", err
	}
	long := int(s[head-1])
	known := s[0] == operation || s[0] == closing
	if !known || numberOf(s) != uint32(l.first+i) || long > api.Sector-head {
		return 0, "", nil
	}
	return s[0], s[head : head+long], nil
}

// write the i-th sector of a log.
func (l *Log) write(i int, kind byte, body string) error {
	s := []byte{kind}
	s = append(s, pack.Four(uint32(l.first+i))...)
	s = append(s, byte(len(body)))
	s = append(s, body...)
	return l.on.Write(l.from+i, string(s))
}

// numberOf a sector, if it is written.
func numberOf(s string) uint32 { return pack.Number(s[1:]) }
