package vec_test

import (
	"math/rand/v2"
	"strings"
	"testing"

	"basiskeep/api"
	"basiskeep/big"
	"basiskeep/vec"
)

// B3: a vector's text.
func TestText(t *testing.T) {
	for _, c := range []struct {
		v    api.Vec
		want string
	}{
		{nil, "()"},
		{ints(0), "(0)"},
		{ints(-1), "(-1)"},
		{ints(1, -2, 30), "(1 -2 30)"},
		{api.Vec{power(64, 0), big.Neg(power(32, -1))}, "(18446744073709551616 -4294967295)"},
		{ints(1, 2, 3, 4, 5, 6, 7, 8, 9), "(1 2 3 4 5 6 7 8 9)"},
	} {
		if got := vec.Text(c.v); got != c.want {
			t.Errorf("%v: %s, wanted %s", c.v, got, c.want)
		}
	}
}

// B3, W7: what is written is read.
func TestParseReadsTexts(t *testing.T) {
	r := rand.New(rand.NewPCG(2, 4))
	for range 500 {
		for n := 1; n <= api.MaxCols; n++ {
			v := drawnVec(r, n)
			got, err := vec.Parse(vec.Text(v))
			if err != nil {
				t.Fatalf("%s: %v", vec.Text(v), err)
			}
			same(t, "Parse", got, allKnown(v))
		}
	}
	long := strings.Repeat("9", api.MaxDigits)
	got, err := vec.Parse("(" + long + " -" + long[1:] + ")")
	if err != nil || len(got) != 2 || big.Text(got[0]) != long || big.Text(got[1]) != "-"+long[1:] {
		t.Errorf("as many digits as may be: %v %v", got, err)
	}
}

// B3: what is no vector's text.
func TestParseRefuses(t *testing.T) {
	long := strings.Repeat("9", api.MaxDigits+1)
	nine := "1 2 3 4 5 6 7 8 9"
	for s, want := range map[string]api.Errno{
		"":                                       api.ErrText,
		"(":                                      api.ErrText,
		")":                                      api.ErrText,
		")(":                                     api.ErrText,
		"1":                                      api.ErrText,
		"1 2":                                    api.ErrText,
		"(1 2":                                   api.ErrText,
		"1 2)":                                   api.ErrText,
		" (1)":                                   api.ErrText,
		"(1) ":                                   api.ErrText,
		"(1)\n":                                  api.ErrText,
		"[1]":                                    api.ErrText,
		"()":                                     api.ErrText,
		"( )":                                    api.ErrText,
		"((1)":                                   api.ErrText,
		"(1))":                                   api.ErrText,
		"( 1)":                                   api.ErrText,
		"(1 )":                                   api.ErrText,
		"(1  2)":                                 api.ErrText,
		"(1\t2)":                                 api.ErrText,
		"(1,2)":                                  api.ErrText,
		"(x)":                                    api.ErrText,
		"(01)":                                   api.ErrText,
		"(-0)":                                   api.ErrText,
		"(+1)":                                   api.ErrText,
		"(1 2 x)":                                api.ErrText,
		"(" + nine:                               api.ErrText,
		nine + ")":                               api.ErrText,
		"(" + nine + ")":                         api.ErrSize,
		"(x" + nine + ")":                        api.ErrSize,
		"(        )":                             api.ErrSize,
		"(" + long + nine + ")":                  api.ErrSize,
		"(       )":                              api.ErrText,
		"(" + long + ")":                         api.ErrMany,
		"(-" + long[1:] + ")":                    api.ErrMany,
		"(1 " + long + " x)":                     api.ErrMany,
		"(x " + long + ")":                       api.ErrText,
		"(1" + strings.Repeat(" ", 1<<20) + "1)": api.ErrSize,
	} {
		got, err := vec.Parse(s)
		refused(t, s[:min(len(s), 40)], got, err, want)
	}
}
