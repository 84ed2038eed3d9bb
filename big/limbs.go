package big

import (
	"cmp"
	"math/bits"
)

// Limbs here are a number without a sign, the lowest first. What a function answers is fresh, but for trim.

// limb at a place; there are noughts behind the last one.
func limb(l []uint32, at int) uint32 {
	if at < len(l) {
		return l[at]
	}
	return 0
}

// freshLimbs: the same ones in memory of their own.
func freshLimbs(l []uint32) []uint32 {
	out := make([]uint32, len(l))
	copy(out, l)
	return out
}

// trim noughts behind, in the same memory.
func trim(l []uint32) []uint32 {
	for len(l) > 0 && l[len(l)-1] == 0 {
		l = l[:len(l)-1]
	}
	return l
}

// compareLimbs: -1, 0, 1; both without noughts behind.
func compareLimbs(a, b []uint32) int {
	if len(a) != len(b) {
		return cmp.Compare(len(a), len(b))
	}
	for i := range len(a) {
		at := len(a) - 1 - i
		if a[at] != b[at] {
			return cmp.Compare(a[at], b[at])
		}
	}
	return 0
}

// addLimbs: the sum, maybe with noughts behind.
func addLimbs(a, b []uint32) []uint32 {
	out := make([]uint32, max(len(a), len(b))+1)
	carry := uint32(0)
	for i := range len(out) {
		out[i], carry = bits.Add32(limb(a, i), limb(b, i), carry)
	}
	return out
}

// subLimbs: a, that isn't less than b, without b; maybe with noughts behind.
func subLimbs(a, b []uint32) []uint32 {
	out := make([]uint32, len(a))
	borrow := uint32(0)
	for i := range len(a) {
		out[i], borrow = bits.Sub32(a[i], limb(b, i), borrow)
	}
	return out
}

// mulLimbs: the product, maybe with noughts behind.
func mulLimbs(a, b []uint32) []uint32 {
	out := make([]uint32, len(a)+len(b))
	for i := range len(a) {
		// a product of two limbs, and two limbs more, just have room in 64 bits
		carry := uint64(0)
		for j := range len(b) {
			carry += uint64(a[i])*uint64(b[j]) + uint64(out[i+j])
			out[i+j] = uint32(carry)
			carry >>= 32
		}
		out[i+len(b)] = uint32(carry)
	}
	return out
}

// divLimbs: how often b, that isn't nought, goes into a, and what is left; both without noughts behind.
func divLimbs(a, b []uint32) (often, left []uint32) {
	if compareLimbs(a, b) < 0 {
		return nil, freshLimbs(a)
	}
	if len(b) == 1 {
		often = freshLimbs(a)
		rest := divByLimb(often, b[0])
		return trim(often), trim([]uint32{rest})
	}
	// with the highest bit of b set, its two highest limbs tell nearly how often it goes in
	by := bits.LeadingZeros32(b[len(b)-1])
	rest := shiftUp(a, by)
	divisor := trim(shiftUp(b, by))
	often = make([]uint32, len(a)-len(b)+1)
	for i := range len(often) {
		at := len(often) - 1 - i
		often[at] = divStep(rest[at:at+len(b)+1], divisor)
	}
	return trim(often), trim(shiftDown(rest[:len(b)], by))
}

// divByLimb: the limbs become how often b goes into them; what is left is answered.
func divByLimb(l []uint32, b uint32) uint32 {
	rest := uint32(0)
	for i := range len(l) {
		at := len(l) - 1 - i
		l[at], rest = bits.Div32(rest, l[at], b)
	}
	return rest
}

// divStep: how often b goes into a, that has one limb more, and into which it goes less than 2 to the power 32 times; a becomes what is left.
func divStep(a, b []uint32) uint32 {
	n := len(b)
	high, next := uint64(b[n-1]), uint64(b[n-2])
	top := uint64(a[n])<<32 | uint64(a[n-1])
	guess, rest := top/high, top%high
	// while what is left of the two highest limbs has room in one, the third one tells whether the guess is too much
	for rest>>32 == 0 && (guess>>32 != 0 || guess*next > rest<<32|uint64(a[n-2])) {
		guess--
		rest += high
	}
	if takeTimes(a, b, guess) {
		// rarely the guess is one too much even so
		guess--
		giveBack(a, b)
	}
	return uint32(guess)
}

// takeTimes: take b so many times from a, that has one limb more; true: that was more than a, and a is left modulo its limbs.
func takeTimes(a, b []uint32, times uint64) bool {
	carry := uint64(0)
	for i := range len(b) {
		carry += times * uint64(b[i])
		low := uint32(carry)
		carry >>= 32
		if a[i] < low {
			carry++
		}
		a[i] -= low
	}
	short := uint64(a[len(b)]) < carry
	a[len(b)] -= uint32(carry)
	return short
}

// giveBack: b is added to a, that has one limb more, modulo a's limbs.
func giveBack(a, b []uint32) {
	carry := uint32(0)
	for i := range len(a) {
		a[i], carry = bits.Add32(a[i], limb(b, i), carry)
	}
}

// shiftUp by less than 32 bits, into one limb more.
func shiftUp(l []uint32, by int) []uint32 {
	out := make([]uint32, len(l)+1)
	for i := range len(l) {
		wide := uint64(l[i]) << by
		out[i] |= uint32(wide)
		out[i+1] = uint32(wide >> 32)
	}
	return out
}

// shiftDown by less than 32 bits.
func shiftDown(l []uint32, by int) []uint32 {
	out := make([]uint32, len(l))
	for i := range len(l) {
		wide := uint64(limb(l, i+1))<<32 | uint64(l[i])
		out[i] = uint32(wide >> by)
	}
	return out
}
