package mat_test

import (
	ref "math/big"
	"math/rand/v2"
	"slices"
	"testing"

	"basiskeep/api"
	"basiskeep/big"
	"basiskeep/vec"
)

// rows of the library's numbers, which share no code with the program.
type rows [][]*ref.Int

// known: what a number is to the library.
func known(a api.Int) *ref.Int {
	n := new(ref.Int)
	for i := len(a.L) - 1; i >= 0; i-- {
		n.Lsh(n, 32)
		n.Add(n, ref.NewInt(int64(a.L[i])))
	}
	if a.Neg {
		n.Neg(n)
	}
	return n
}

// knownRows: what rows are to the library.
func knownRows(m api.Mat) rows {
	out := make(rows, len(m))
	for i, v := range m {
		for _, a := range v {
			out[i] = append(out[i], known(a))
		}
	}
	return out
}

// told: rows as a text.
func told(m rows) string {
	s := ""
	for _, row := range m {
		s += "("
		for i, a := range row {
			if i > 0 {
				s += " "
			}
			s += a.String()
		}
		s += ")"
	}
	return s
}

// text of rows; they must be numbers.
func text(t *testing.T, m api.Mat) string {
	t.Helper()
	s := ""
	for _, v := range m {
		for _, a := range v {
			if err := big.Check(a); err != nil {
				t.Fatalf("%v is no number", a)
			}
		}
		s += vec.Text(v)
	}
	return s
}

// mats: rows of these plain numbers.
func mats(l ...[]int) api.Mat {
	var m api.Mat
	for _, v := range l {
		m = append(m, vec.Of(v))
	}
	return m
}

// drawnInt: mostly small, sometimes of several limbs.
func drawnInt(r *rand.Rand, kind int) api.Int {
	switch {
	case kind == 0:
		return big.Of(r.IntN(3) - 1)
	case kind == 1:
		return big.Of(r.IntN(13) - 6)
	case kind == 2:
		return big.Of([]int{0, 0, 2, -4, 6, 8, 12, 30, -60, 36}[r.IntN(10)])
	case kind == 3:
		return big.Of(r.IntN(2001) - 1000)
	}
	a := big.Of(int(r.Uint64()))
	for range r.IntN(4) {
		a = big.Mul(a, big.Of(int(r.Uint64())))
	}
	return a
}

// drawnMat: rows of n numbers; some of them hang on others.
func drawnMat(r *rand.Rand, many, n int) api.Mat {
	kind := r.IntN(5)
	var m api.Mat
	for i := range many {
		v := make(api.Vec, n)
		for at := range v {
			v[at] = drawnInt(r, kind)
		}
		if i > 1 && r.IntN(4) == 0 {
			v, _ = vec.Combine(vec.Of([]int{r.IntN(7) - 3, r.IntN(7) - 3}), api.Mat{m[i-1], m[r.IntN(i-1)]}, n)
		}
		m = append(m, v)
	}
	return m
}

// drawnMats: of every shape that may be, the same each time.
func drawnMats(seed uint64, times, mostRows, mostCols int) []api.Mat {
	r := rand.New(rand.NewPCG(3, seed))
	var out []api.Mat
	for range times {
		for n := 1; n <= mostCols; n++ {
			for many := 1; many <= mostRows; many++ {
				out = append(out, drawnMat(r, many, n))
			}
		}
	}
	return out
}

// plainForm: the one form by Euclid's way, place by place: the row nearest to nought is taken from the others till these are nought.
func plainForm(m rows, n int) rows {
	done := 0
	for at := range n {
		for {
			best := -1
			left := 0
			for i := done; i < len(m); i++ {
				if m[i][at].Sign() == 0 {
					continue
				}
				left++
				if best < 0 || m[i][at].CmpAbs(m[best][at]) < 0 {
					best = i
				}
			}
			if best < 0 {
				break
			}
			m[done], m[best] = m[best], m[done]
			if left == 1 {
				settle(m, done, at)
				done++
				break
			}
			for i := done + 1; i < len(m); i++ {
				take(m[i], m[done], at)
			}
		}
	}
	return m[:done]
}

// settle a pivot: above nought, and rows ahead less than it.
func settle(m rows, row, at int) {
	if m[row][at].Sign() < 0 {
		for _, a := range m[row] {
			a.Neg(a)
		}
	}
	for i := range row {
		take(m[i], m[row], at)
	}
}

// take from a row another one so many times that what is left in that place is from nought on, and less than the other's there.
func take(row, other []*ref.Int, at int) {
	often := new(ref.Int).Div(row[at], other[at])
	for i := range row {
		row[i].Sub(row[i], new(ref.Int).Mul(often, other[i]))
	}
}

// minor: the determinant of these rows and places, by its definition along the first row.
func minor(m rows, from, places []int) *ref.Int {
	if len(from) == 0 {
		return ref.NewInt(1)
	}
	sum := new(ref.Int)
	for i, at := range places {
		if m[from[0]][at].Sign() == 0 {
			continue
		}
		others := slices.Concat(places[:i], places[i+1:])
		part := minor(m, from[1:], others)
		part.Mul(part, m[from[0]][at])
		if i%2 == 1 {
			part.Neg(part)
		}
		sum.Add(sum, part)
	}
	return sum
}

// choices of k numbers below n, rising.
func choices(n, k int) [][]int {
	if k == 0 {
		return [][]int{{}}
	}
	var out [][]int
	for last := k - 1; last < n; last++ {
		for _, l := range choices(last, k-1) {
			out = append(out, append(slices.Clone(l), last))
		}
	}
	return out
}

// common: the greatest number that goes into all determinants of k rows and k places.
func common(m rows, n, k int) *ref.Int {
	g := new(ref.Int)
	for _, from := range choices(len(m), k) {
		for _, places := range choices(n, k) {
			g.GCD(nil, nil, g, new(ref.Int).Abs(minor(m, from, places)))
		}
	}
	return g
}
