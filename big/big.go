// Package big: numbers of any size.
package big

import (
	"math"

	"basiskeep/api"
)

// Check a number.
func Check(a api.Int) error {
	if len(a.L) == 0 {
		if a.Neg {
			return api.ErrShape
		}
		return nil
	}
	if a.L[len(a.L)-1] == 0 {
		return api.ErrShape
	}
	return nil
}

// Of a number of 64 bits.
func Of(n int) api.Int {
	size := uint64(n)
	if n < 0 {
		size = -size // in 64 bits without a sign the lowest number has room, too
	}
	return signed(n < 0, []uint32{uint32(size), uint32(size >> 32)})
}

// Small: the number in 64 bits; false: it has no room there.
func Small(a api.Int) (int, bool) {
	if len(a.L) > 2 {
		return 0, false
	}
	size := uint64(limb(a.L, 1))<<32 | uint64(limb(a.L, 0))
	if a.Neg && size <= 1<<63 {
		return int(-size), true
	}
	if !a.Neg && size <= math.MaxInt64 {
		return int(size), true
	}
	return 0, false
}

// Zero: is it nought?
func Zero(a api.Int) bool { return len(a.L) == 0 }

// Compare two numbers: -1, 0, 1.
func Compare(a, b api.Int) int {
	switch {
	case a.Neg && b.Neg:
		return compareLimbs(b.L, a.L)
	case a.Neg:
		return -1
	case b.Neg:
		return 1
	}
	return compareLimbs(a.L, b.L)
}

// Neg of a number.
func Neg(a api.Int) api.Int { return signed(!a.Neg, freshLimbs(a.L)) }

// Abs of a number.
func Abs(a api.Int) api.Int { return signed(false, freshLimbs(a.L)) }

// Add two numbers.
func Add(a, b api.Int) api.Int { return addSigned(a, b.Neg, b.L) }

// Sub of two numbers.
func Sub(a, b api.Int) api.Int { return addSigned(a, !b.Neg, b.L) }

// Mul of two numbers.
func Mul(a, b api.Int) api.Int { return signed(a.Neg != b.Neg, mulLimbs(a.L, b.L)) }

// Div of a number by another one: how often, rounded down, and what is left, that has the sign of the second one, or is nought.
func Div(a, b api.Int) (api.Int, api.Int, error) {
	if Zero(b) {
		return api.Int{}, api.Int{}, api.ErrZero
	}
	often, left := divLimbs(a.L, b.L)
	if a.Neg != b.Neg && len(left) > 0 {
		// limbs are divided towards nought: below it, down is one step on
		often = addLimbs(often, []uint32{1})
		left = subLimbs(b.L, left)
	}
	return signed(a.Neg != b.Neg, often), signed(b.Neg, left), nil
}

// Gcd of two numbers, not below nought: and by how much of each it is.
func Gcd(a, b api.Int) (g, x, y api.Int) {
	// all along, g is x times a and y times b, and h is u times a and v times b
	g, x, y = Abs(a), Of(sign(a)), Of(0)
	h, u, v := Abs(b), Of(0), Of(sign(b))
	for !Zero(h) {
		often, left, _ := Div(g, h)
		g, h = h, left
		x, u = u, Sub(x, Mul(often, u))
		y, v = v, Sub(y, Mul(often, v))
	}
	return g, x, y
}

// sign of a number: -1, 0, 1.
func sign(a api.Int) int {
	switch {
	case Zero(a):
		return 0
	case a.Neg:
		return -1
	}
	return 1
}

// signed: the number of these limbs, which it keeps, so they must be fresh.
func signed(neg bool, limbs []uint32) api.Int {
	limbs = trim(limbs)
	return api.Int{Neg: neg && len(limbs) > 0, L: limbs}
}

// addSigned: a number, and one of that sign and these limbs, together.
func addSigned(a api.Int, neg bool, limbs []uint32) api.Int {
	if a.Neg == neg {
		return signed(neg, addLimbs(a.L, limbs))
	}
	if compareLimbs(a.L, limbs) < 0 {
		return signed(neg, subLimbs(limbs, a.L))
	}
	return signed(a.Neg, subLimbs(a.L, limbs))
}
