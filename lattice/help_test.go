package lattice_test

import (
	ref "math/big"
	"math/rand/v2"
	"slices"
	"testing"

	"basiskeep/api"
	"basiskeep/big"
	"basiskeep/lattice"
	"basiskeep/vec"
)

// rows of the library's numbers, which share no code with the program.
type rows [][]*ref.Int

// known: what a number is to the library.
func known(a api.Int) *ref.Int {
	n := new(ref.Int)
	for i := len(a.L) - 1; i >= 0; i-- {
		n.Lsh(n, 32)
		n.Add(n, ref.NewInt(int64(a.L[i])))
	}
	if a.Neg {
		n.Neg(n)
	}
	return n
}

// knownRows: what rows are to the library.
func knownRows(m api.Mat) rows {
	out := make(rows, len(m))
	for i, v := range m {
		for _, a := range v {
			out[i] = append(out[i], known(a))
		}
	}
	return out
}

// told: rows as a text.
func told(m rows) string {
	s := ""
	for _, row := range m {
		s += "("
		for i, a := range row {
			if i > 0 {
				s += " "
			}
			s += a.String()
		}
		s += ")"
	}
	return s
}

// text of rows; they must be numbers.
func text(t *testing.T, m api.Mat) string {
	t.Helper()
	s := ""
	for _, v := range m {
		for _, a := range v {
			if err := big.Check(a); err != nil {
				t.Fatalf("%v is no number", a)
			}
		}
		s += vec.Text(v)
	}
	return s
}

// mats: rows of these plain numbers.
func mats(l ...[]int) api.Mat {
	var m api.Mat
	for _, v := range l {
		m = append(m, vec.Of(v))
	}
	return m
}

// basis of these plain rows, as they are.
func basis(n int, l ...[]int) api.Basis { return api.Basis{N: n, Rows: mats(l...)} }

// made: the lattice of what rows generate, put in one by one.
func made(t *testing.T, n int, m api.Mat) api.Basis {
	t.Helper()
	b, err := lattice.New(n)
	for _, v := range m {
		if err == nil {
			b, err = lattice.Insert(b, v)
		}
	}
	if err != nil {
		t.Fatalf("%s: %v", text(t, m), err)
	}
	return b
}

// isLattice: it is one of n numbers, and its basis is the one form of what generates it.
func isLattice(t *testing.T, what string, got api.Basis, err error, n int, generate api.Mat) {
	t.Helper()
	want := told(plainForm(knownRows(generate), n))
	if err != nil || got.N != n || text(t, got.Rows) != want {
		t.Fatalf("%s: %d %s %v, wanted %d %s", what, got.N, text(t, got.Rows), err, n, want)
	}
}

// same: are two lattices the same?
func same(t *testing.T, what string, a, b api.Basis) {
	t.Helper()
	if a.N != b.N || text(t, a.Rows) != text(t, b.Rows) {
		t.Fatalf("%s: %d %s, and %d %s", what, a.N, text(t, a.Rows), b.N, text(t, b.Rows))
	}
}

// must: what is answered without an error.
func must[T any](t *testing.T) func(x T, err error) T {
	t.Helper()
	return func(x T, err error) T {
		t.Helper()
		if err != nil {
			t.Fatal(err)
		}
		return x
	}
}

// drawnInt: mostly small, sometimes of several limbs.
func drawnInt(r *rand.Rand, kind int) api.Int {
	switch kind {
	case 0:
		return big.Of(r.IntN(3) - 1)
	case 1:
		return big.Of(r.IntN(13) - 6)
	case 2:
		return big.Of([]int{0, 0, 2, -4, 6, 8, 12, 30, -60, 36}[r.IntN(10)])
	case 3:
		return big.Of(r.IntN(2001) - 1000)
	}
	a := big.Of(int(r.Uint64()))
	for range r.IntN(4) {
		a = big.Mul(a, big.Of(int(r.Uint64())))
	}
	return a
}

// drawnMat: rows of n numbers; some of them hang on others.
func drawnMat(r *rand.Rand, many, n int) api.Mat {
	kind := r.IntN(5)
	var m api.Mat
	for i := range many {
		v := make(api.Vec, n)
		for at := range v {
			v[at] = drawnInt(r, kind)
		}
		if i > 1 && r.IntN(4) == 0 {
			v, _ = vec.Combine(vec.Of([]int{r.IntN(7) - 3, r.IntN(7) - 3}), api.Mat{m[i-1], m[r.IntN(i-1)]}, n)
		}
		m = append(m, v)
	}
	return m
}

// pair of lattices, and what generates each.
type pair struct {
	n        int
	a, b     api.Basis
	ofA, ofB api.Mat
}

// pairs of every size; of some the first one lies in the second one, or both hang together.
func pairs(t *testing.T, seed uint64, times int) []pair {
	r := rand.New(rand.NewPCG(4, seed))
	var out []pair
	for range times {
		for n := 1; n <= api.MaxDim; n++ {
			p := pair{n: n, ofA: drawnMat(r, r.IntN(n+2), n), ofB: drawnMat(r, r.IntN(n+2), n)}
			switch r.IntN(4) {
			case 0:
				p.ofB = slices.Concat(p.ofB, p.ofA)
			case 1:
				p.ofA = mixed(r, p.ofB, n)
			}
			p.a, p.b = made(t, n, p.ofA), made(t, n, p.ofB)
			out = append(out, p)
		}
	}
	return out
}

// mixed: about as many rows, made of these.
func mixed(r *rand.Rand, m api.Mat, n int) api.Mat {
	var out api.Mat
	for range len(m) + r.IntN(2) {
		k := make(api.Vec, len(m))
		for i := range k {
			k[i] = big.Of(r.IntN(9) - 4)
		}
		v, _ := vec.Combine(k, m, n)
		out = append(out, v)
	}
	return out
}

// box: all vectors of n numbers from -most to most.
func box(n, most int) []api.Vec {
	if n == 0 {
		return []api.Vec{{}}
	}
	var out []api.Vec
	for _, v := range box(n-1, most) {
		for a := -most; a <= most; a++ {
			out = append(out, append(slices.Clone(v), big.Of(a)))
		}
	}
	return out
}

// plainForm: the one form by Euclid's way, place by place: the row nearest to nought is taken from the others till these are nought.
func plainForm(m rows, n int) rows {
	done := 0
	for at := range n {
		for {
			best := -1
			left := 0
			for i := done; i < len(m); i++ {
				if m[i][at].Sign() == 0 {
					continue
				}
				left++
				if best < 0 || m[i][at].CmpAbs(m[best][at]) < 0 {
					best = i
				}
			}
			if best < 0 {
				break
			}
			m[done], m[best] = m[best], m[done]
			if left == 1 {
				settle(m, done, at)
				done++
				break
			}
			for i := done + 1; i < len(m); i++ {
				take(m[i], m[done], at)
			}
		}
	}
	return m[:done]
}

// settle a pivot: above nought, and rows ahead less than it.
func settle(m rows, row, at int) {
	if m[row][at].Sign() < 0 {
		for _, a := range m[row] {
			a.Neg(a)
		}
	}
	for i := range row {
		take(m[i], m[row], at)
	}
}

// take from a row another one so many times that what is left in that place is from nought on, and less than the other's there.
func take(row, other []*ref.Int, at int) {
	often := new(ref.Int).Div(row[at], other[at])
	for i := range row {
		row[i].Sub(row[i], new(ref.Int).Mul(often, other[i]))
	}
}

// minor: the determinant of these rows and places, by its definition along the first row.
func minor(m rows, from, places []int) *ref.Int {
	if len(from) == 0 {
		return ref.NewInt(1)
	}
	sum := new(ref.Int)
	for i, at := range places {
		others := slices.Concat(places[:i], places[i+1:])
		part := minor(m, from[1:], others)
		part.Mul(part, m[from[0]][at])
		if i%2 == 1 {
			part.Neg(part)
		}
		sum.Add(sum, part)
	}
	return sum
}

// choices of k numbers below n, rising.
func choices(n, k int) [][]int {
	if k == 0 {
		return [][]int{{}}
	}
	var out [][]int
	for last := k - 1; last < n; last++ {
		for _, l := range choices(last, k-1) {
			out = append(out, append(slices.Clone(l), last))
		}
	}
	return out
}

// common: the greatest number that goes into all determinants of k rows and k places.
func common(m rows, n, k int) *ref.Int {
	g := new(ref.Int)
	for _, from := range choices(len(m), k) {
		for _, places := range choices(n, k) {
			g.GCD(nil, nil, g, new(ref.Int).Abs(minor(m, from, places)))
		}
	}
	return g
}
