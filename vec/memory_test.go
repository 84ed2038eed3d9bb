package vec_test

import (
	"reflect"
	"testing"

	"basiskeep/api"
	"basiskeep/big"
	"basiskeep/vec"
)

// calls: every one that is handed vectors; what each answers of numbers.
func calls() map[string]func(k api.Int, a, b api.Vec, m api.Mat) api.Vec {
	return map[string]func(k api.Int, a, b api.Vec, m api.Mat) api.Vec{
		"Check":   func(k api.Int, a, b api.Vec, m api.Mat) api.Vec { vec.Check(a); return nil },
		"Add":     func(k api.Int, a, b api.Vec, m api.Mat) api.Vec { v, _ := vec.Add(a, b); return v },
		"Sub":     func(k api.Int, a, b api.Vec, m api.Mat) api.Vec { v, _ := vec.Sub(a, b); return v },
		"Scale":   func(k api.Int, a, b api.Vec, m api.Mat) api.Vec { return vec.Scale(k, a) },
		"Zero":    func(k api.Int, a, b api.Vec, m api.Mat) api.Vec { vec.Zero(a); return nil },
		"First":   func(k api.Int, a, b api.Vec, m api.Mat) api.Vec { return ints(vec.First(a)) },
		"Alike":   func(k api.Int, a, b api.Vec, m api.Mat) api.Vec { vec.Alike(a, b); return nil },
		"Combine": func(k api.Int, a, b api.Vec, m api.Mat) api.Vec { v, _ := vec.Combine(a, m, 3); return v },
		"Text":    func(k api.Int, a, b api.Vec, m api.Mat) api.Vec { v, _ := vec.Parse(vec.Text(a)); return v },
	}
}

// roomy: the same vector, with memory behind it and behind its numbers' limbs.
func roomy(v api.Vec) api.Vec {
	out := make(api.Vec, len(v), len(v)+3)
	for i := range v {
		all := append(append([]uint32{}, v[i].L...), 7, 0, 9)
		out[i] = api.Int{Neg: v[i].Neg, L: all[:len(v[i].L)]}
	}
	return append(out, big.Of(5), big.Of(6), big.Of(7))[:len(v)]
}

// seen: all of a vector's memory, also what stands behind it and behind its limbs.
func seen(v api.Vec) []api.Int {
	var out []api.Int
	for _, a := range v[:cap(v)] {
		out = append(out, api.Int{Neg: a.Neg, L: append([]uint32{}, a.L[:cap(a.L)]...)})
	}
	return out
}

// spoil all memory of a vector.
func spoil(v api.Vec) {
	v = v[:cap(v)]
	for i := range v {
		l := v[i].L[:cap(v[i].L)]
		for j := range l {
			l[j] ^= 0x5a5a5a5a
		}
		v[i].Neg = !v[i].Neg
	}
}

// handed: what the calls are handed: multiples by 1, noughts and sums with nought tempt to hand out an argument again.
func handed() (api.Int, []api.Vec) {
	return roomy(ints(1))[0], []api.Vec{
		roomy(ints(1, 0, 0)), roomy(ints(0, 0, 0)), roomy(ints(3, 4, -5)), roomy(api.Vec{power(70, 0), big.Of(1), big.Of(0)}),
	}
}

// Z2: what is handed in stays as it is; what comes out shares no memory with it, nor within itself.
func TestMemory(t *testing.T) {
	k, vectors := handed()
	for name, call := range calls() {
		for _, a := range vectors {
			for _, b := range vectors {
				m := api.Mat{roomy(b), roomy(a), roomy(b)}
				all := append(api.Mat{a, b, {k}}, m...)
				before := make([][]api.Int, len(all))
				for i := range all {
					before[i] = seen(all[i])
				}
				out := call(k, a, b, m)
				again := vec.Text(call(k, a, b, m))
				for i := range out {
					rest := vec.Text(out[i+1:])
					spoil(out[i : i+1 : i+1])
					if vec.Text(out[i+1:]) != rest {
						t.Fatalf("%s: two numbers of an answer share memory", name)
					}
				}
				for i := range all {
					if !reflect.DeepEqual(seen(all[i]), before[i]) {
						t.Fatalf("%s: %s is written into, or handed out", name, vec.Text(a))
					}
				}
				if vec.Text(call(k, a, b, m)) != again {
					t.Fatalf("%s: answers of two calls share memory", name)
				}
			}
		}
	}
}

// Z2: a list of plain numbers stays, too, and isn't read behind.
func TestOfMemory(t *testing.T) {
	l := []int{1, 2, 3, 4}
	v := vec.Of(l[:2])
	spoil(v)
	if !reflect.DeepEqual(l, []int{1, 2, 3, 4}) || vec.Text(vec.Of(l[:2])) != "(1 2)" {
		t.Errorf("%v, %s", l, vec.Text(vec.Of(l[:2])))
	}
}
