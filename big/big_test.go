package big_test

import (
	"math"
	ref "math/big"
	"testing"

	"basiskeep/api"
	"basiskeep/big"
)

// A1: a number has no noughts behind, and nought is not below.
func TestCheck(t *testing.T) {
	good := append(edges(), api.Int{L: []uint32{}}, of(false, 0, 0, 7), of(true, 0, 1))
	for _, a := range good {
		if err := big.Check(a); err != nil {
			t.Errorf("Check(%v): %v", a, err)
		}
	}
	for _, a := range []api.Int{of(true), {Neg: true, L: []uint32{}}, of(false, 0), of(true, 0), of(false, 1, 0), of(true, 5, 6, 0), of(false, 0, 0)} {
		if err := big.Check(a); err != api.ErrShape {
			t.Errorf("Check(%v): %v", a, err)
		}
	}
}

// A1: nothing behind a number's limbs is a part of it.
func TestCheckLooksAtLimbsAlone(t *testing.T) {
	l := []uint32{4, 0, 9}
	if err := big.Check(api.Int{L: l[:1]}); err != nil {
		t.Errorf("one limb: %v", err)
	}
	if err := big.Check(api.Int{L: l[:2]}); err != api.ErrShape {
		t.Errorf("two limbs: %v", err)
	}
}

// A2: what is made of 64 bits is told in them again.
func TestOfSmall(t *testing.T) {
	for _, n := range []int{0, 1, -1, 9, -9, 1<<31 - 1, 1 << 31, -1 << 31, 1<<32 - 1, 1 << 32, -1 << 32, 1<<32 + 1, 1<<62 + 5, math.MaxInt64 - 1, math.MaxInt64, -math.MaxInt64, math.MinInt64} {
		a := big.Of(n)
		same(t, "Of", a, ref.NewInt(int64(n)))
		if got, ok := big.Small(a); got != n || !ok {
			t.Errorf("Small(%d): %d %v", n, got, ok)
		}
	}
}

// A2: what has no room in 64 bits isn't told in them.
func TestSmallHasNoRoom(t *testing.T) {
	for _, a := range []api.Int{of(false, 0, 1<<31), of(true, 1, 1<<31), of(false, 1<<32-1, 1<<32-1), of(true, 1<<32-1, 1<<32-1), of(false, 0, 0, 1), of(true, 0, 0, 1), of(false, 5, 0, 0, 1)} {
		if got, ok := big.Small(a); got != 0 || ok {
			t.Errorf("Small(%v): %d %v", a, got, ok)
		}
	}
	for _, a := range edges() {
		n := known(a)
		if _, ok := big.Small(a); ok != n.IsInt64() {
			t.Errorf("Small(%v): %v", n, ok)
		}
	}
}

// A2: nought alone is nought.
func TestZero(t *testing.T) {
	for _, a := range edges() {
		if got := big.Zero(a); got != (len(a.L) == 0) {
			t.Errorf("Zero(%v): %v", a, got)
		}
	}
	if !big.Zero(api.Int{L: []uint32{}}) || !big.Zero(big.Of(0)) {
		t.Error("nought isn't nought")
	}
}

// A2: order is that of numbers.
func TestCompare(t *testing.T) {
	for _, p := range pairs() {
		if got, want := big.Compare(p[0], p[1]), known(p[0]).Cmp(known(p[1])); got != want {
			t.Fatalf("Compare(%v, %v): %d", p[0], p[1], got)
		}
	}
	if got := big.Compare(big.Of(0), api.Int{L: []uint32{}}); got != 0 {
		t.Errorf("nought and nought: %d", got)
	}
}

// A3: signs.
func TestNegAbs(t *testing.T) {
	for _, a := range edges() {
		n := known(a)
		same(t, "Neg", big.Neg(a), new(ref.Int).Neg(n))
		same(t, "Abs", big.Abs(a), new(ref.Int).Abs(n))
	}
}

// A3: sums, differences and products.
func TestAddSubMul(t *testing.T) {
	for _, p := range pairs() {
		a, b := known(p[0]), known(p[1])
		same(t, "Add", big.Add(p[0], p[1]), new(ref.Int).Add(a, b))
		same(t, "Sub", big.Sub(p[0], p[1]), new(ref.Int).Sub(a, b))
		same(t, "Mul", big.Mul(p[0], p[1]), new(ref.Int).Mul(a, b))
	}
}

// A4: rounded down, and what is left has the sign of what was divided by.
func TestDivSigns(t *testing.T) {
	for _, c := range [][4]int{
		{7, 3, 2, 1}, {-7, 3, -3, 2}, {7, -3, -3, -2}, {-7, -3, 2, -1},
		{6, 3, 2, 0}, {-6, 3, -2, 0}, {6, -3, -2, 0}, {-6, -3, 2, 0},
		{1, 5, 0, 1}, {-1, 5, -1, 4}, {1, -5, -1, -4}, {-1, -5, 0, -1},
		{0, 5, 0, 0}, {0, -5, 0, 0}, {5, 1, 5, 0}, {5, -1, -5, 0},
		{math.MinInt64, math.MaxInt64, -2, math.MaxInt64 - 1},
	} {
		q, r, err := big.Div(big.Of(c[0]), big.Of(c[1]))
		if err != nil {
			t.Fatalf("%d by %d: %v", c[0], c[1], err)
		}
		same(t, "often", q, ref.NewInt(int64(c[2])))
		same(t, "left", r, ref.NewInt(int64(c[3])))
	}
}

// A4: of numbers of all sizes.
func TestDiv(t *testing.T) {
	for _, p := range pairs() {
		a, b := known(p[0]), known(p[1])
		q, r, err := big.Div(p[0], p[1])
		if b.Sign() == 0 {
			if err != api.ErrZero || len(q.L) > 0 || q.Neg || len(r.L) > 0 || r.Neg {
				t.Fatalf("%v by nought: %v %v %v", a, q, r, err)
			}
			continue
		}
		if err != nil {
			t.Fatalf("%v by %v: %v", a, b, err)
		}
		often, left := floor(a, b)
		same(t, "often", q, often)
		same(t, "left", r, left)
	}
}

// floor: the library rounds towards nought.
func floor(a, b *ref.Int) (often, left *ref.Int) {
	often, left = new(ref.Int).QuoRem(a, b, new(ref.Int))
	if left.Sign() != 0 && left.Sign() != b.Sign() {
		often.Sub(often, ref.NewInt(1))
		left.Add(left, b)
	}
	return often, left
}

// A5: the greatest number that goes into both, and by how much of each it is.
func TestGcd(t *testing.T) {
	for _, p := range pairs() {
		a, b := known(p[0]), known(p[1])
		g, x, y := big.Gcd(p[0], p[1])
		want := new(ref.Int).GCD(nil, nil, new(ref.Int).Abs(a), new(ref.Int).Abs(b))
		same(t, "Gcd", g, want)
		if big.Check(x) != nil || big.Check(y) != nil {
			t.Fatalf("Gcd(%v, %v): %v %v: no numbers", a, b, x, y)
		}
		made := new(ref.Int).Mul(known(x), a)
		made.Add(made, new(ref.Int).Mul(known(y), b))
		if made.Cmp(want) != 0 {
			t.Fatalf("Gcd(%v, %v): %v times and %v times are %v", a, b, known(x), known(y), made)
		}
	}
}

// A5: with nought, and of signs.
func TestGcdEdges(t *testing.T) {
	for _, c := range [][3]int{{0, 0, 0}, {0, 5, 5}, {5, 0, 5}, {0, -5, 5}, {-5, 0, 5}, {12, -18, 6}, {-12, -18, 6}, {7, 7, 7}, {-7, 7, 7}, {1, 0, 1}, {8, 9, 1}} {
		g, _, _ := big.Gcd(big.Of(c[0]), big.Of(c[1]))
		same(t, "Gcd", g, ref.NewInt(int64(c[2])))
	}
}
