package big

import (
	"strconv"
	"strings"

	"basiskeep/api"
)

// billion: the greatest power of ten that has room in a limb, so that a division by it yields the most digits.
const billion = 1_000_000_000

// Text of a number, decimal.
func Text(a api.Int) string {
	if Zero(a) {
		return "0"
	}
	groups := digitGroups(a.L)
	top := len(groups) - 1
	var s strings.Builder
	if a.Neg {
		s.WriteByte('-')
	}
	s.WriteString(strconv.Itoa(groups[top]))
	for i := range top {
		// the 1 ahead makes all nine digits be told, and is left out
		s.WriteString(strconv.Itoa(billion + groups[top-1-i])[1:])
	}
	return s.String()
}

// digitGroups: nine decimal digits each, the lowest first; the last one isn't nought.
func digitGroups(limbs []uint32) []int {
	var groups []int
	rest := freshLimbs(limbs)
	for len(rest) > 0 {
		groups = append(groups, int(divByLimb(rest, billion)))
		rest = trim(rest)
	}
	return groups
}

// Parse a number.
func Parse(s string) (api.Int, error) {
	if len(s) > api.MaxDigits {
		return api.Int{}, api.ErrMany
	}
	digits, neg := strings.CutPrefix(s, "-")
	if !decimal(digits) || neg && digits == "0" {
		return api.Int{}, api.ErrText
	}
	var limbs []uint32
	for i := range len(digits) {
		limbs = appendDigit(limbs, digits[i]-'0')
	}
	return signed(neg, limbs), nil
}

// decimal: are these digits, one at least, and no nought ahead of others?
func decimal(s string) bool {
	for i := range len(s) {
		if s[i] < '0' || s[i] > '9' {
			return false
		}
	}
	return s == "0" || s != "" && s[0] != '0'
}

// appendDigit: ten times the limbs, and a digit more, in the same memory as far as there is room.
func appendDigit(limbs []uint32, digit byte) []uint32 {
	carry := uint64(digit)
	for i := range len(limbs) {
		carry += 10 * uint64(limbs[i])
		limbs[i] = uint32(carry)
		carry >>= 32
	}
	if carry > 0 {
		limbs = append(limbs, uint32(carry))
	}
	return limbs
}
