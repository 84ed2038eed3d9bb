package mat

import (
	"slices"

	"basiskeep/api"
	"basiskeep/big"
)

// Det of as many rows as numbers.
func Det(m api.Mat) (api.Int, error) {
	n := len(m)
	if err := Check(m, n); err != nil {
		return api.Int{}, err
	}
	rows := slices.Clone(m)
	turn, last := big.Of(1), big.Of(1)
	for at := range n {
		from := rowWith(rows, at)
		if from < 0 {
			return big.Of(0), nil
		}
		if from != at {
			rows[at], rows[from] = rows[from], rows[at]
			turn = big.Neg(turn)
		}
		for i := range n - at - 1 {
			rows[at+1+i] = cleared(rows[at], rows[at+1+i], at, last)
		}
		last = rows[at][at]
	}
	return big.Mul(turn, last), nil
}

// rowWith: the first row, from that of the place on, that isn't nought in the place; -1: there is none.
func rowWith(rows api.Mat, at int) int {
	for i := range len(rows) - at {
		if !big.Zero(rows[at+i][at]) {
			return at + i
		}
	}
	return -1
}

// cleared: a row with nought in the place where the first one has its pivot, by the determinants of two rows and two places of both. The pivot ahead, by which all were multiplied, goes into these: without it each number is itself a determinant of the rows at the beginning, and so doesn't grow beyond those.
func cleared(first, row api.Vec, at int, ahead api.Int) api.Vec {
	out := make(api.Vec, len(row))
	for i := range len(row) - at {
		place := at + i
		cross := big.Sub(big.Mul(first[at], row[place]), big.Mul(row[at], first[place]))
		out[place], _, _ = big.Div(cross, ahead)
	}
	return out
}
