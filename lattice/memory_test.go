package lattice_test

import (
	"reflect"
	"testing"

	"basiskeep/api"
	"basiskeep/big"
	"basiskeep/lattice"
	"basiskeep/vec"
)

// calls: every one; what each answers of numbers.
func calls() map[string]func(a, b api.Basis, v api.Vec) api.Mat {
	return map[string]func(a, b api.Basis, v api.Vec) api.Mat{
		"New":      func(a, b api.Basis, v api.Vec) api.Mat { x, _ := lattice.New(a.N); return x.Rows },
		"Whole":    func(a, b api.Basis, v api.Vec) api.Mat { x, _ := lattice.Whole(a.N); return x.Rows },
		"Check":    func(a, b api.Basis, v api.Vec) api.Mat { lattice.Check(a); return nil },
		"Insert":   func(a, b api.Basis, v api.Vec) api.Mat { x, _ := lattice.Insert(a, v); return x.Rows },
		"Member":   func(a, b api.Basis, v api.Vec) api.Mat { k, _, _ := lattice.Member(a, v); return api.Mat{k} },
		"Sum":      func(a, b api.Basis, v api.Vec) api.Mat { x, _ := lattice.Sum(a, b); return x.Rows },
		"Meet":     func(a, b api.Basis, v api.Vec) api.Mat { x, _ := lattice.Meet(a, b); return x.Rows },
		"Inside":   func(a, b api.Basis, v api.Vec) api.Mat { lattice.Inside(a, b); return nil },
		"Index":    func(a, b api.Basis, v api.Vec) api.Mat { i, _ := lattice.Index(a, b); return api.Mat{{i}} },
		"Quotient": func(a, b api.Basis, v api.Vec) api.Mat { q, _ := lattice.Quotient(a, b); return api.Mat{q.D} },
		"Fill":     func(a, b api.Basis, v api.Vec) api.Mat { x, _ := lattice.Fill(a); return x.Rows },
	}
}

// roomy: the same rows, with memory behind them, behind each of them, and behind their numbers' limbs.
func roomy(m api.Mat) api.Mat {
	out := make(api.Mat, len(m), len(m)+2)
	for i, v := range m {
		row := make(api.Vec, len(v), len(v)+2)
		for at, a := range v {
			all := append(append([]uint32{}, a.L...), 7, 0, 9)
			row[at] = api.Int{Neg: a.Neg, L: all[:len(a.L)]}
		}
		out[i] = append(row, big.Of(5), big.Of(6))[:len(v)]
	}
	return append(out, vec.Of([]int{1, 2}), vec.Of([]int{3}))[:len(m)]
}

// seen: all memory of rows, also what stands behind.
func seen(m api.Mat) [][]api.Int {
	var out [][]api.Int
	for _, v := range m[:cap(m)] {
		var row []api.Int
		for _, a := range v[:cap(v)] {
			row = append(row, api.Int{Neg: a.Neg, L: append([]uint32{}, a.L[:cap(a.L)]...)})
		}
		out = append(out, row)
	}
	return out
}

// spoil all memory of rows.
func spoil(m api.Mat) {
	for _, v := range m {
		v = v[:cap(v)]
		for i := range v {
			l := v[i].L[:cap(v[i].L)]
			for j := range l {
				l[j] ^= 0x5a5a5a5a
			}
			v[i].Neg = !v[i].Neg
		}
	}
}

// apart: spoil what was answered number by number, row by row; nothing else may change by that.
func apart(t *testing.T, what string, out api.Mat) {
	t.Helper()
	for i := range out {
		rest := text(t, out[i+1:])
		for at := range out[i] {
			behind := vec.Text(out[i][at+1:])
			spoil(api.Mat{out[i][at : at+1 : at+1]})
			if vec.Text(out[i][at+1:]) != behind {
				t.Fatalf("%s: two numbers share memory", what)
			}
		}
		spoil(out[i : i+1])
		if text(t, out[i+1:]) != rest {
			t.Fatalf("%s: two rows share memory", what)
		}
	}
}

// handed: pairs that tempt to hand out an argument again: the same twice, nought, and all; and drawn ones.
func handed(t *testing.T) []pair {
	out := []pair{
		{n: 1, a: basis(1, []int{5}), b: basis(1, []int{5})},
		{n: 2, a: basis(2), b: basis(2, []int{3, 1}, []int{0, 4})},
		{n: 2, a: basis(2, []int{3, 1}, []int{0, 4}), b: basis(2)},
		{n: 3, a: basis(3, []int{0, 1, 7}), b: must[api.Basis](t)(lattice.Whole(3))},
		{n: 3, a: must[api.Basis](t)(lattice.Whole(3)), b: basis(3, []int{2, 1, 7})},
	}
	return append(out, pairs(t, 15, 8)...)
}

// Z2: what is handed in stays as it is; what comes out shares no memory with it, nor within itself, nor with what came out before.
func TestMemory(t *testing.T) {
	for name, call := range calls() {
		for _, p := range handed(t) {
			for _, v := range append(api.Mat{vec.Of(make([]int, p.n))}, p.a.Rows...) {
				a := api.Basis{N: p.n, Rows: roomy(p.a.Rows)}
				b := api.Basis{N: p.n, Rows: roomy(p.b.Rows)}
				w := roomy(api.Mat{v})
				before := [][][]api.Int{seen(a.Rows), seen(b.Rows), seen(w)}
				what := name + " of " + text(t, a.Rows) + " and " + text(t, b.Rows)
				out := call(a, b, w[0])
				if !reflect.DeepEqual(out, call(p.a, p.b, v)) {
					t.Fatalf("%s: reads what stands behind", what)
				}
				kept := call(a, b, w[0])
				want := text(t, kept)
				apart(t, what, out)
				if !reflect.DeepEqual([][][]api.Int{seen(a.Rows), seen(b.Rows), seen(w)}, before) {
					t.Fatalf("%s: an argument is written into, or handed out", what)
				}
				if text(t, kept) != want || text(t, call(a, b, w[0])) != want {
					t.Fatalf("%s: answers of two calls share memory", what)
				}
			}
		}
	}
}

// Z2: both may be the same, and a vector one of the rows.
func TestSharedArguments(t *testing.T) {
	for _, p := range handed(t) {
		for name, call := range calls() {
			for i, v := range p.a.Rows {
				other := api.Basis{N: p.n, Rows: roomy(p.a.Rows)}
				if got, want := text(t, call(p.a, p.a, v)), text(t, call(p.a, other, roomy(p.a.Rows)[i])); got != want {
					t.Errorf("%s: %s, wanted %s", name, got, want)
				}
			}
		}
	}
}

// Z1: numbers of some hundred digits: every call ends soon, and the whole holds.
func TestGreat(t *testing.T) {
	a := big.Of(3)
	for len(a.L) < 42 {
		a = big.Mul(a, a)
	}
	draw := func() api.Basis {
		var m api.Mat
		for i := range api.MaxDim {
			var v api.Vec
			for at := range api.MaxDim {
				a = big.Add(big.Mul(a, big.Of(6364136223846793005)), big.Of(i+at))
				a.L = a.L[:41:41]
				v = append(v, big.Sub(a, big.Of(at)))
			}
			m = append(m, v)
		}
		return made(t, api.MaxDim, m)
	}
	x, y := draw(), draw()
	all := must[api.Basis](t)(lattice.Whole(api.MaxDim))
	index := func(a, b api.Basis) api.Int { return must[api.Int](t)(lattice.Index(a, b)) }
	meet, sum := must[api.Basis](t)(lattice.Meet(x, y)), must[api.Basis](t)(lattice.Sum(x, y))
	both := big.Mul(index(x, all), index(y, all))
	if big.Compare(both, big.Mul(index(meet, all), index(sum, all))) != 0 || big.Compare(index(meet, x), index(y, sum)) != 0 {
		t.Errorf("indices of great lattices differ")
	}
	same(t, "Fill", all, must[api.Basis](t)(lattice.Fill(meet)))
}
