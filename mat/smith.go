package mat

import (
	"basiskeep/api"
	"basiskeep/big"
	"basiskeep/vec"
)

// Smith: the invariants of rows, each of so many numbers: each goes into the next one.
func Smith(m api.Mat, n int) ([]api.Int, error) {
	if err := Check(m, n); err != nil {
		return nil, err
	}
	rows, places := oneForm(m, n), n
	// Rows and places may change sides without changing invariants. Each time, the first pivot becomes the greatest number that goes into its row: it gets less, or its row and place are nought beside it and stay so. Then that holds of the next one: so this ends.
	for !pivotsAlone(rows) {
		rows, places = oneForm(turned(rows, places), len(rows)), len(rows)
	}
	return chained(pivots(rows)), nil
}

// pivotsAlone: are rows in the one form nought but for their pivots?
func pivotsAlone(rows api.Mat) bool {
	for row := range len(rows) {
		if !vec.Zero(rows[row][vec.First(rows[row])+1:]) {
			return false
		}
	}
	return true
}

// pivots of rows in the one form.
func pivots(rows api.Mat) []api.Int {
	out := make([]api.Int, len(rows))
	for row := range len(rows) {
		out[row] = rows[row][vec.First(rows[row])]
	}
	return out
}

// chained: as many numbers, of the same invariants, each of which goes into the next one.
func chained(l []api.Int) []api.Int {
	for low := range len(l) {
		for i := range len(l) - low - 1 {
			high := low + 1 + i
			l[low], l[high] = common(l[low], l[high])
		}
	}
	return l
}

// common: the greatest number that goes into both, and the least one into which both go.
func common(a, b api.Int) (api.Int, api.Int) {
	g, _, _ := big.Gcd(a, b)
	part, _, _ := big.Div(a, g)
	return g, big.Mul(part, b)
}
