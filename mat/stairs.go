package mat

import (
	"basiskeep/api"
	"basiskeep/big"
	"basiskeep/vec"
)

// stairs: rows by the places of their pivots; nil: no row has its pivot there. Rows in it are never written into, but replaced.
type stairs []api.Vec

// oneForm: the fresh rows in the one form that generate the same as these, each of n numbers (here of any many).
func oneForm(m api.Mat, n int) api.Mat {
	s := make(stairs, n)
	for row := range len(m) {
		s.insert(m[row])
		// rows in between in the one form, too, keep numbers from growing
		s.tidy()
	}
	var out api.Mat
	for at := range n {
		if s[at] != nil {
			out = append(out, s[at])
		}
	}
	return out
}

// insert a vector among those that are generated.
func (s stairs) insert(v api.Vec) {
	for at := range len(s) {
		v = s.lower(v, at)
		if big.Zero(v[at]) {
			continue
		}
		if s[at] == nil {
			s[at] = upright(v, at)
			return
		}
		s[at], v = fold(s[at], v, at)
	}
}

// tidy: what stands above pivots becomes less than they; from below, so that each row is lowered by rows that are.
func (s stairs) tidy() {
	for i := range len(s) {
		at := len(s) - 1 - i
		if s[at] != nil {
			s[at] = s.lower(s[at], at+1)
		}
	}
}

// lower: a vector, less what of the rows from a place on makes it, in the places of their pivots, from nought on and less than these.
func (s stairs) lower(v api.Vec, from int) api.Vec {
	for i := range len(s) - from {
		at := from + i
		if s[at] == nil {
			continue
		}
		often, _, _ := big.Div(v[at], s[at][at])
		if !big.Zero(often) {
			v = mix(big.Of(1), v, big.Neg(often), s[at])
		}
	}
	return v
}

// fold: two vectors that generate the same as these two, of which the second one has nought in that place; both are nought ahead of it.
func fold(a, b api.Vec, at int) (api.Vec, api.Vec) {
	g, x, y := big.Gcd(a[at], b[at])
	partA, _, _ := big.Div(a[at], g)
	partB, _, _ := big.Div(b[at], g)
	return mix(x, a, y, b), mix(partA, b, big.Neg(partB), a)
}

// upright: the vector or its opposite, whichever is above nought in that place; fresh in any case.
func upright(v api.Vec, at int) api.Vec {
	if v[at].Neg {
		return vec.Scale(big.Of(-1), v)
	}
	return vec.Scale(big.Of(1), v)
}

// mix: x times a and y times b.
func mix(x api.Int, a api.Vec, y api.Int, b api.Vec) api.Vec {
	out := make(api.Vec, len(a))
	for at := range len(a) {
		out[at] = big.Add(big.Mul(x, a[at]), big.Mul(y, b[at]))
	}
	return out
}
