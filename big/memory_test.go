package big_test

import (
	"reflect"
	"testing"

	"basiskeep/api"
	"basiskeep/big"
)

// calls: every one that is handed numbers; what each answers as numbers.
func calls() map[string]func(a, b api.Int) []api.Int {
	return map[string]func(a, b api.Int) []api.Int{
		"Check":   func(a, b api.Int) []api.Int { big.Check(a); return nil },
		"Small":   func(a, b api.Int) []api.Int { n, _ := big.Small(a); return []api.Int{big.Of(n)} },
		"Zero":    func(a, b api.Int) []api.Int { big.Zero(a); return nil },
		"Compare": func(a, b api.Int) []api.Int { return []api.Int{big.Of(big.Compare(a, b))} },
		"Neg":     func(a, b api.Int) []api.Int { return []api.Int{big.Neg(a)} },
		"Abs":     func(a, b api.Int) []api.Int { return []api.Int{big.Abs(a)} },
		"Add":     func(a, b api.Int) []api.Int { return []api.Int{big.Add(a, b)} },
		"Sub":     func(a, b api.Int) []api.Int { return []api.Int{big.Sub(a, b)} },
		"Mul":     func(a, b api.Int) []api.Int { return []api.Int{big.Mul(a, b)} },
		"Div":     func(a, b api.Int) []api.Int { q, r, _ := big.Div(a, b); return []api.Int{q, r} },
		"Gcd":     func(a, b api.Int) []api.Int { g, x, y := big.Gcd(a, b); return []api.Int{g, x, y} },
		"Text":    func(a, b api.Int) []api.Int { n, _ := big.Parse(big.Text(a)); return []api.Int{n} },
	}
}

// roomy: the same number, with memory behind its limbs that is all of one limb.
func roomy(a api.Int, behind uint32) (api.Int, []uint32) {
	all := append([]uint32{}, a.L...)
	for range 5 {
		all = append(all, behind)
	}
	return api.Int{Neg: a.Neg, L: all[:len(a.L)]}, all
}

// texts: what the numbers are now.
func texts(l []api.Int) []string {
	var out []string
	for _, a := range l {
		out = append(out, known(a).String())
	}
	return out
}

// spoil all memory of a number, also what stands behind its limbs.
func spoil(a api.Int) {
	l := a.L[:cap(a.L)]
	for i := range l {
		l[i] ^= 0x5a5a5a5a
	}
}

// Z2: what is handed in stays as it is, also behind its limbs, and that isn't read.
func TestArgumentsStay(t *testing.T) {
	for name, call := range calls() {
		for _, p := range pairs()[:6000] {
			want := texts(call(p[0], p[1]))
			a, allA := roomy(p[0], 0xdeadbeef)
			b, allB := roomy(p[1], 0)
			_, keptA := roomy(p[0], 0xdeadbeef)
			_, keptB := roomy(p[1], 0)
			if got := texts(call(a, b)); !reflect.DeepEqual(got, want) {
				t.Fatalf("%s(%v, %v): %v, wanted %v", name, a, b, got, want)
			}
			if !reflect.DeepEqual(allA, keptA) || !reflect.DeepEqual(allB, keptB) {
				t.Fatalf("%s writes into what it is handed: %v %v", name, p[0], p[1])
			}
		}
	}
}

// Z2: what comes out is fresh, and no two lists of it share memory.
func TestAnswersAreFresh(t *testing.T) {
	for name, call := range calls() {
		for _, p := range pairs()[:6000] {
			a, b := big.Neg(big.Neg(p[0])), big.Neg(big.Neg(p[1]))
			out := call(a, b)
			again := call(a, b)
			want := texts(again)
			for i := range out {
				before := texts(out[i+1:])
				spoil(out[i])
				if !reflect.DeepEqual(texts(out[i+1:]), before) {
					t.Fatalf("%s(%v, %v): two answers share memory", name, p[0], p[1])
				}
			}
			if !reflect.DeepEqual(texts([]api.Int{a, b}), texts(p[:])) {
				t.Fatalf("%s(%v, %v): an answer shares memory with what was handed in", name, p[0], p[1])
			}
			if !reflect.DeepEqual(texts(again), want) || !reflect.DeepEqual(texts(call(a, b)), want) {
				t.Fatalf("%s(%v, %v): answers of two calls share memory", name, p[0], p[1])
			}
		}
	}
}

// Z2: the same number may stand in both places.
func TestSameTwice(t *testing.T) {
	for name, call := range calls() {
		for _, a := range edges() {
			other := big.Neg(big.Neg(a))
			if got, want := texts(call(a, a)), texts(call(a, other)); !reflect.DeepEqual(got, want) {
				t.Fatalf("%s(%v) twice: %v, wanted %v", name, a, got, want)
			}
		}
	}
}

// Z2: what Of and Parse make is fresh.
func TestMadeIsFresh(t *testing.T) {
	for _, n := range []int{1, -1, 1 << 40} {
		spoil(big.Of(n))
		if got, ok := big.Small(big.Of(n)); got != n || !ok {
			t.Errorf("Of(%d): %d %v", n, got, ok)
		}
	}
	const s = "-340282366920938463463374607431768211457"
	a, _ := big.Parse(s)
	spoil(a)
	b, err := big.Parse(s)
	if err != nil || big.Text(b) != s {
		t.Errorf("Parse: %v %v", b, err)
	}
}
