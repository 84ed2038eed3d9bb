package lattice

import (
	"basiskeep/api"
	"basiskeep/big"
	"basiskeep/mat"
	"basiskeep/vec"
)

// size: may vectors of a lattice have so many numbers?
func size(n int) bool { return n >= 1 && n <= api.MaxDim }

// Check a basis: in the one form.
func Check(b api.Basis) error {
	if !size(b.N) {
		return api.ErrBound
	}
	if len(b.Rows) > b.N {
		return api.ErrMany
	}
	if err := mat.Check(b.Rows, b.N); err != nil {
		return err
	}
	if !oneForm(b.Rows) {
		return api.ErrShape
	}
	return nil
}

// checkBoth: what is wrong with two of which something is asked together?
func checkBoth(a, b api.Basis) error {
	if err := Check(a); err != nil {
		return err
	}
	if err := Check(b); err != nil {
		return err
	}
	if a.N != b.N {
		return api.ErrSize
	}
	return nil
}

// checkWith: what is wrong with a basis, or with a vector that is asked of it?
func checkWith(b api.Basis, v api.Vec) error {
	if err := Check(b); err != nil {
		return err
	}
	if len(v) != b.N {
		return api.ErrSize
	}
	return vec.Check(v)
}

// oneForm: are rows in the one form?
func oneForm(rows api.Mat) bool {
	last := -1
	for row := range len(rows) {
		at := vec.First(rows[row])
		if at <= last || rows[row][at].Neg || !lessAhead(rows[:row], at, rows[row][at]) {
			return false
		}
		last = at
	}
	return true
}

// lessAhead: are all that stand in that place of the rows from nought on, and less than the pivot?
func lessAhead(rows api.Mat, at int, pivot api.Int) bool {
	for row := range len(rows) {
		if a := rows[row][at]; a.Neg || big.Compare(a, pivot) >= 0 {
			return false
		}
	}
	return true
}
