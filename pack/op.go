package pack

import (
	"basiskeep/api"
	"basiskeep/bag"
)

// Op as bytes: its kind, how long its name is, it; N; how many numbers; these, two bytes each.
func Op(o api.Op) (string, error) {
	if !shaped(o) {
		return "", api.ErrShape
	}
	out := []byte{byte(o.Kind), byte(len(o.Name))}
	out = append(out, o.Name...)
	out = append(out, byte(o.N), byte(len(o.V)))
	for at := range len(o.V) {
		if o.V[at] < -api.MaxEntry || o.V[at] > api.MaxEntry {
			return "", api.ErrBound
		}
		out = append(out, byte(o.V[at]), byte(o.V[at]>>8))
	}
	return string(out), nil
}

// shaped: has each part of an operation room in its bytes? (Whether it may be done is the catalog's to say.)
func shaped(o api.Op) bool {
	switch o.Kind {
	case api.Create, api.Drop, api.Put, api.Take:
		return bag.Name(o.Name) && o.N >= 0 && o.N <= api.MaxDim && len(o.V) <= api.MaxDim
	}
	return false
}

// Unop: bytes as an operation.
func Unop(s string) (api.Op, error) {
	o, is := unpacked(s)
	if !is {
		return api.Op{}, api.ErrText
	}
	// bytes are read as what they may mean: those alone are right that would be written so
	if back, err := Op(o); err != nil || back != s {
		return api.Op{}, api.ErrText
	}
	return o, nil
}

// unpacked: what bytes say, be it an operation or not; false: they are not as long as they say.
func unpacked(s string) (api.Op, bool) {
	if len(s) < 2 {
		return api.Op{}, false
	}
	behind := 2 + int(s[1]) // where the name ends
	if len(s) < behind+2 {
		return api.Op{}, false
	}
	o := api.Op{Kind: int(s[0]), Name: s[2:behind], N: int(s[behind])}
	many, tail := int(s[behind+1]), s[behind+2:]
	if len(tail) != 2*many {
		return api.Op{}, false
	}
	for at := range many {
		two := uint16(tail[2*at]) | uint16(tail[2*at+1])<<8
		o.V = append(o.V, int(int16(two)))
	}
	return o, true
}
