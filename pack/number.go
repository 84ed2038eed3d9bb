package pack

// Four bytes of a number, the lowest first.
func Four(n uint32) string {
	var s [4]byte
	for i := range len(s) {
		s[i] = byte(n >> (8 * i))
	}
	return string(s[:])
}

// Number of the four bytes with which a text begins; those that it hasn't are noughts.
func Number(s string) uint32 {
	n := uint32(0)
	for i := range min(len(s), 4) {
		n |= uint32(s[i]) << (8 * i)
	}
	return n
}
