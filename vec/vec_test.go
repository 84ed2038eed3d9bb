package vec_test

import (
	"math"
	ref "math/big"
	"math/rand/v2"
	"testing"

	"basiskeep/api"
	"basiskeep/big"
	"basiskeep/vec"
)

// B1: 1 to MaxCols numbers.
func TestCheckSize(t *testing.T) {
	for n := range 20 {
		want := error(nil)
		if n < 1 || n > api.MaxCols {
			want = api.ErrSize
		}
		if err := vec.Check(make(api.Vec, n)); err != want {
			t.Errorf("%d numbers: %v, wanted %v", n, err, want)
		}
	}
	if err := vec.Check(nil); err != api.ErrSize {
		t.Errorf("none: %v", err)
	}
}

// B1: each number is checked, behind the size.
func TestCheckNumbers(t *testing.T) {
	for _, wrong := range []api.Int{{Neg: true}, {L: []uint32{0}}, {L: []uint32{5, 0}}, {Neg: true, L: []uint32{1, 0, 0}}} {
		for n := 1; n <= 12; n++ {
			for at := range n {
				v := ints(make([]int, n)...)
				v[at] = wrong
				want := api.ErrShape
				if n > api.MaxCols {
					want = api.ErrSize
				}
				if err := vec.Check(v); err != error(want) {
					t.Errorf("%d numbers, %v at %d: %v, wanted %v", n, wrong, at, err, want)
				}
			}
		}
	}
	if err := vec.Check(api.Vec{power(5000, -1), big.Of(-1), {}}); err != nil {
		t.Errorf("a vector: %v", err)
	}
}

// B1: Of any many.
func TestOf(t *testing.T) {
	for _, n := range sizes() {
		l := make([]int, n)
		want := make([]*ref.Int, n)
		for i := range l {
			l[i] = []int{0, -1, math.MinInt64, math.MaxInt64, 1 << 32, i}[i%6]
			want[i] = ref.NewInt(int64(l[i]))
		}
		same(t, "Of", vec.Of(l), want)
	}
	same(t, "Of none", vec.Of(nil), nil)
}

// B2: sums and differences, place by place.
func TestAddSub(t *testing.T) {
	r := rand.New(rand.NewPCG(2, 1))
	for range 300 {
		for _, n := range sizes() {
			a, b := drawnVec(r, n), drawnVec(r, n)
			sum, err := vec.Add(a, b)
			less, err2 := vec.Sub(a, b)
			if err != nil || err2 != nil {
				t.Fatalf("%d places: %v %v", n, err, err2)
			}
			wantSum, wantLess := allKnown(a), allKnown(a)
			for i, k := range allKnown(b) {
				wantSum[i].Add(wantSum[i], k)
				wantLess[i].Sub(wantLess[i], k)
			}
			same(t, "Add", sum, wantSum)
			same(t, "Sub", less, wantLess)
		}
	}
}

// B2: one has more places.
func TestAddSubSizes(t *testing.T) {
	for _, n := range sizes() {
		for _, k := range sizes() {
			if n == k {
				continue
			}
			a, b := make(api.Vec, n), make(api.Vec, k)
			sum, err := vec.Add(a, b)
			refused(t, "Add", sum, err, api.ErrSize)
			less, err := vec.Sub(a, b)
			refused(t, "Sub", less, err, api.ErrSize)
		}
	}
}

// B2: multiples.
func TestScale(t *testing.T) {
	r := rand.New(rand.NewPCG(2, 2))
	for range 300 {
		for _, n := range sizes() {
			k, v := drawn(r), drawnVec(r, n)
			want := allKnown(v)
			for i := range want {
				want[i].Mul(want[i], known(k))
			}
			same(t, "Scale", vec.Scale(k, v), want)
		}
	}
	same(t, "nought times", vec.Scale(big.Of(0), ints(1, -1, 7)), allKnown(ints(0, 0, 0)))
}

// B2: the first place that isn't nought.
func TestFirst(t *testing.T) {
	for _, n := range sizes() {
		v := make(api.Vec, n)
		if at := vec.First(v); at != -1 || !vec.Zero(v) {
			t.Errorf("%d noughts: %d %v", n, at, vec.Zero(v))
		}
		for want := range n {
			for _, k := range []api.Int{big.Of(1), big.Of(-1), power(32, 0), power(64, 0)} {
				v := make(api.Vec, n)
				v[want], v[n-1] = k, k
				if at := vec.First(v); at != want || vec.Zero(v) {
					t.Errorf("%v: %d %v, wanted %d", v, at, vec.Zero(v), want)
				}
			}
		}
	}
	if vec.First(nil) != -1 || !vec.Zero(nil) {
		t.Error("none: there is no place")
	}
}

// B2: likeness.
func TestAlike(t *testing.T) {
	different := []api.Vec{
		nil, ints(0), ints(0, 0), ints(1), ints(-1), ints(1, 0), ints(0, 1), ints(1, 1), ints(1, 2), ints(2, 1),
		{power(32, 0)}, {power(32, 1)}, {power(64, 0)}, {big.Neg(power(64, 0))}, {power(64, 0), big.Of(1)},
	}
	for i, a := range different {
		for j, b := range different {
			copied := vec.Scale(big.Of(1), b)
			if vec.Alike(a, b) != (i == j) || vec.Alike(a, copied) != (i == j) {
				t.Errorf("%s, %s: %v", vec.Text(a), vec.Text(b), vec.Alike(a, b))
			}
		}
	}
	if !vec.Alike(nil, api.Vec{}) || !vec.Alike(api.Vec{{}}, api.Vec{{L: []uint32{}}}) {
		t.Error("empty lists may be nil or not")
	}
}

// B2: combinations.
func TestCombine(t *testing.T) {
	r := rand.New(rand.NewPCG(2, 3))
	for range 40 {
		for _, n := range sizes() {
			for _, rows := range []int{0, 1, 2, 3, 12, 20} {
				k := drawnVec(r, rows)
				var m api.Mat
				want := allKnown(make(api.Vec, n))
				for i := range rows {
					m = append(m, drawnVec(r, n))
					for at, number := range allKnown(m[i]) {
						want[at].Add(want[at], number.Mul(number, known(k[i])))
					}
				}
				got, err := vec.Combine(k, m, n)
				if err != nil {
					t.Fatalf("%d rows of %d: %v", rows, n, err)
				}
				same(t, "Combine", got, want)
			}
		}
	}
}

// B2: what isn't of a size; without rows any size is right.
func TestCombineSizes(t *testing.T) {
	m := api.Mat{ints(1, 2), ints(3, 4), ints(5, 6)}
	for n := range 6 {
		if n == 3 {
			continue
		}
		got, err := vec.Combine(make(api.Vec, n), m, 2)
		refused(t, "so many of three rows", got, err, api.ErrSize)
	}
	for _, n := range []int{math.MinInt64, -1, 0, 1, 3, 1 << 40, math.MaxInt64} {
		got, err := vec.Combine(ints(1, 1, 1), m, n)
		refused(t, "rows of 2", got, err, api.ErrSize)
	}
	for at := range m {
		for _, other := range []api.Vec{nil, ints(1), ints(1, 2, 3)} {
			wrong := append(api.Mat{}, m...)
			wrong[at] = other
			got, err := vec.Combine(ints(1, 1, 1), wrong, 2)
			refused(t, "one of another size", got, err, api.ErrSize)
		}
	}
	for _, n := range []int{math.MinInt64, -1, 0} {
		got, err := vec.Combine(nil, nil, n)
		if err != nil || len(got) != 0 {
			t.Errorf("no rows, %d places: %v %v", n, got, err)
		}
	}
}
