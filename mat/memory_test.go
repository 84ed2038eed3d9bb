package mat_test

import (
	"reflect"
	"testing"

	"basiskeep/api"
	"basiskeep/big"
	"basiskeep/mat"
	"basiskeep/vec"
)

// calls: every one; what each answers of numbers.
func calls() map[string]func(m api.Mat, n int) api.Mat {
	return map[string]func(m api.Mat, n int) api.Mat{
		"Check":   func(m api.Mat, n int) api.Mat { mat.Check(m, n); return nil },
		"Hermite": func(m api.Mat, n int) api.Mat { h, _ := mat.Hermite(m, n); return h },
		"Det":     func(m api.Mat, n int) api.Mat { d, _ := mat.Det(m); return api.Mat{{d}} },
		"Smith":   func(m api.Mat, n int) api.Mat { s, _ := mat.Smith(m, n); return api.Mat{s} },
		"Kernel":  func(m api.Mat, n int) api.Mat { k, _ := mat.Kernel(m, n); return k },
	}
}

// roomy: the same rows, with memory behind them, behind each of them, and behind their numbers' limbs.
func roomy(m api.Mat) api.Mat {
	out := make(api.Mat, len(m), len(m)+2)
	for i, v := range m {
		row := make(api.Vec, len(v), len(v)+2)
		for at, a := range v {
			all := append(append([]uint32{}, a.L...), 7, 0, 9)
			row[at] = api.Int{Neg: a.Neg, L: all[:len(a.L)]}
		}
		out[i] = append(row, big.Of(5), big.Of(6))[:len(v)]
	}
	return append(out, vec.Of([]int{1, 2}), vec.Of([]int{3}))[:len(m)]
}

// seen: all memory of rows, also what stands behind.
func seen(m api.Mat) [][]api.Int {
	var out [][]api.Int
	for _, v := range m[:cap(m)] {
		var row []api.Int
		for _, a := range v[:cap(v)] {
			row = append(row, api.Int{Neg: a.Neg, L: append([]uint32{}, a.L[:cap(a.L)]...)})
		}
		out = append(out, row)
	}
	return out
}

// spoil all memory of rows.
func spoil(m api.Mat) {
	for _, v := range m {
		v = v[:cap(v)]
		for i := range v {
			l := v[i].L[:cap(v[i].L)]
			for j := range l {
				l[j] ^= 0x5a5a5a5a
			}
			v[i].Neg = !v[i].Neg
		}
	}
}

// handed: rows that are in the one form already, and of one number, tempt to hand out an argument again; others are changed much.
func handed() []api.Mat {
	return append([]api.Mat{
		nil,
		mats([]int{5}),
		mats([]int{1, 0}, []int{0, 1}),
		mats([]int{2, 1, 4}, []int{0, 3, 5}, []int{0, 0, 7}),
		mats([]int{0, 1}, []int{1, 0}),
		mats([]int{0, 0}, []int{3, 0}),
	}, drawnMats(7, 2, 5, 4)...)
}

// Z2: what is handed in stays as it is; what comes out shares no memory with it, nor within itself, nor with what came out before.
func TestMemory(t *testing.T) {
	for name, call := range calls() {
		for _, plain := range handed() {
			m, n := roomy(plain), 2
			if len(m) > 0 {
				n = len(m[0])
			}
			before := seen(m)
			out := call(m, n)
			if !reflect.DeepEqual(out, call(plain, n)) {
				t.Fatalf("%s: %s: reads what stands behind", name, text(t, plain))
			}
			kept := call(m, n)
			want := text(t, kept)
			for i := range out {
				rest := text(t, out[i+1:])
				for at := range out[i] {
					behind := vec.Text(out[i][at+1:])
					spoil(api.Mat{out[i][at : at+1 : at+1]})
					if vec.Text(out[i][at+1:]) != behind {
						t.Fatalf("%s: %s: two numbers share memory", name, text(t, plain))
					}
				}
				spoil(out[i : i+1])
				if text(t, out[i+1:]) != rest {
					t.Fatalf("%s: %s: two rows share memory", name, text(t, plain))
				}
			}
			if !reflect.DeepEqual(seen(m), before) {
				t.Fatalf("%s: %s is written into, or handed out", name, text(t, plain))
			}
			if text(t, kept) != want || text(t, call(m, n)) != want {
				t.Fatalf("%s: %s: answers of two calls share memory", name, text(t, plain))
			}
		}
	}
}

// Z2: the same row, and the same number, may stand in several places.
func TestSharedRows(t *testing.T) {
	a := big.Of(6)
	v := api.Vec{a, a, big.Of(4)}
	m := api.Mat{v, v, v[:3:3]}
	apart := mats([]int{6, 6, 4}, []int{6, 6, 4}, []int{6, 6, 4})
	for name, call := range calls() {
		if got, want := text(t, call(m, 3)), text(t, call(apart, 3)); got != want {
			t.Errorf("%s: %s, wanted %s", name, got, want)
		}
	}
}

// Z1: numbers of as many digits as may be read, in as many rows as may be: every call ends soon.
func TestGreat(t *testing.T) {
	m := make(api.Mat, api.MaxRows)
	a := big.Of(3)
	for len(a.L) < 42 {
		a = big.Mul(a, a)
	}
	for i := range m {
		for at := range api.MaxCols {
			a = big.Add(big.Mul(a, big.Of(6364136223846793005)), big.Of(i+at))
			a.L = a.L[:41:41]
			m[i] = append(m[i], big.Sub(a, big.Of(at)))
		}
	}
	for name, call := range calls() {
		out := call(m, api.MaxCols)
		if name == "Hermite" && len(out) != api.MaxCols || name == "Smith" && len(out[0]) != api.MaxCols {
			t.Errorf("%s: %d rows", name, len(out))
		}
	}
	square := append(api.Mat{}, m[:8]...)
	h, _ := mat.Hermite(square, 8)
	d, _ := mat.Det(square)
	product, _ := mat.Det(h)
	s, _ := mat.Smith(square, 8)
	all := big.Of(1)
	for _, one := range s {
		all = big.Mul(all, one)
	}
	if big.Compare(big.Abs(d), product) != 0 || big.Compare(all, product) != 0 {
		t.Errorf("what is made of rows differs: %d, %d, %d limbs", len(d.L), len(product.L), len(all.L))
	}
}
