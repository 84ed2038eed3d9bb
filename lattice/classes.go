package lattice

import (
	"basiskeep/api"
	"basiskeep/big"
	"basiskeep/mat"
	"basiskeep/vec"
)

// Member: does a vector lie in a lattice? How much of each row it is.
func Member(b api.Basis, v api.Vec) (api.Vec, bool, error) {
	if err := checkWith(b, v); err != nil {
		return nil, false, err
	}
	much, is := shares(b, v)
	return much, is, nil
}

// shares: how much of each row a vector is; false: it doesn't lie there.
func shares(b api.Basis, v api.Vec) (api.Vec, bool) {
	much := make(api.Vec, len(b.Rows))
	left := v
	for row := range len(b.Rows) {
		// rows behind are nought in this pivot's place, and those ahead are taken off already: it alone can make what is left there
		at := vec.First(b.Rows[row])
		often, rest, _ := big.Div(left[at], b.Rows[row][at])
		if !big.Zero(rest) {
			return nil, false
		}
		left, _ = vec.Sub(left, vec.Scale(often, b.Rows[row]))
		much[row] = often
	}
	if !vec.Zero(left) {
		return nil, false
	}
	return much, true
}

// allShares: of each row of the first lattice how much of each row of the second one it is; false: not all lies there.
func allShares(a, b api.Basis) (api.Mat, bool) {
	out := make(api.Mat, len(a.Rows))
	for row := range len(a.Rows) {
		much, is := shares(b, a.Rows[row])
		if !is {
			return nil, false
		}
		out[row] = much
	}
	return out, true
}

// Inside: does the first lattice lie in the second one?
func Inside(a, b api.Basis) (bool, error) {
	if err := checkBoth(a, b); err != nil {
		return false, err
	}
	_, is := allShares(a, b)
	return is, nil
}

// Index of a lattice in another one: how many classes there are.
func Index(a, b api.Basis) (api.Int, error) {
	q, err := Quotient(a, b)
	if err != nil {
		return api.Int{}, err
	}
	if q.Free > 0 {
		return api.Int{}, api.ErrEndless
	}
	many := big.Of(1)
	for i := range len(q.D) {
		many = big.Mul(many, q.D[i])
	}
	return many, nil
}

// Quotient of the second lattice by the first one, that lies in it.
func Quotient(a, b api.Basis) (api.Quotient, error) {
	if err := checkBoth(a, b); err != nil {
		return api.Quotient{}, err
	}
	rows, is := allShares(a, b)
	if !is {
		return api.Quotient{}, api.ErrOutside
	}
	if len(rows) == 0 {
		// of the lattice of nought alone, too, which has no places to ask for invariants in
		return api.Quotient{Free: len(b.Rows)}, nil
	}
	all, _ := mat.Smith(rows, len(b.Rows))
	return api.Quotient{D: aboveOne(all), Free: len(b.Rows) - len(all)}, nil
}

// aboveOne: of rising invariants those that part anything: by 1 all numbers are in one class.
func aboveOne(l []api.Int) []api.Int {
	one := big.Of(1)
	var out []api.Int
	for i := range len(l) {
		if big.Compare(l[i], one) > 0 {
			out = append(out, l[i])
		}
	}
	return out
}
