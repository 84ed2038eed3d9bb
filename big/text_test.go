package big_test

import (
	ref "math/big"
	"math/rand/v2"
	"strings"
	"testing"

	"basiskeep/api"
	"basiskeep/big"
)

// A6: decimal digits, with noughts within, and none ahead.
func TestText(t *testing.T) {
	for _, a := range edges() {
		if got, want := big.Text(a), known(a).String(); got != want {
			t.Errorf("Text(%v): %s, wanted %s", a, got, want)
		}
	}
	for _, n := range []int{0, 7, 10, -10, 10, 100, 999999999, 1000000000, 1000000001, -1000000000, 1000000000000000000, 1000000000000000001} {
		if got, want := big.Text(big.Of(n)), ref.NewInt(int64(n)).String(); got != want {
			t.Errorf("Text: %s, wanted %s", got, want)
		}
	}
}

// A6: a text is told, however long it is; one of MaxDigits bytes at most is read again.
func TestTextIsRead(t *testing.T) {
	r := rand.New(rand.NewPCG(3, 4))
	for range 3000 {
		a := drawn(r, 60)
		s := big.Text(a)
		if s != known(a).String() {
			t.Fatalf("Text(%v): %s", a, s)
		}
		b, err := big.Parse(s)
		if len(s) > api.MaxDigits {
			if err != api.ErrMany || len(b.L) > 0 || b.Neg {
				t.Fatalf("%d bytes: %v %v", len(s), b, err)
			}
			continue
		}
		if err != nil {
			t.Fatalf("Parse(%s): %v", s, err)
		}
		same(t, "Parse", b, known(a))
	}
}

// A6: what is read.
func TestParse(t *testing.T) {
	nines := strings.Repeat("9", api.MaxDigits-1)
	for _, s := range []string{
		"0", "1", "-1", "9", "10", "-10", "4294967295", "4294967296", "-4294967296", "18446744073709551615", "18446744073709551616",
		"9223372036854775808", "-9223372036854775808", "1000000000000000000000000000000", "-" + nines, nines + "9", "1" + strings.Repeat("0", api.MaxDigits-1),
	} {
		a, err := big.Parse(s)
		if err != nil {
			t.Fatalf("Parse(%q): %v", s, err)
		}
		want, _ := new(ref.Int).SetString(s, 10)
		same(t, "Parse", a, want)
		if got := big.Text(a); got != s {
			t.Errorf("Text of %q: %q", s, got)
		}
	}
}

// A6: what is no number's text.
func TestParseErrors(t *testing.T) {
	wrong := func(s string, want api.Errno) {
		t.Helper()
		if a, err := big.Parse(s); err != want || len(a.L) > 0 || a.Neg {
			t.Errorf("Parse(%q): %v %v, wanted %v", s, a, err, want)
		}
	}
	for _, s := range []string{
		"", "-", "--1", "-0", "00", "01", "-01", "-00", "+1", "+0", " 1", "1 ", " ", "1 2", "- 1", "1-", "1-1", "1.0", "1e3", "1_000", "0x1", "a", "1a", "a1",
		"\x00", "1\x00", "/", ":", "1/", "1:", "\xff", "1\n", "\u0661", "\uff11", "\u22121",
		strings.Repeat("0", api.MaxDigits), strings.Repeat("x", api.MaxDigits),
	} {
		wrong(s, api.ErrText)
	}
	for _, s := range []string{
		strings.Repeat("1", api.MaxDigits+1), "-" + strings.Repeat("1", api.MaxDigits), strings.Repeat("0", api.MaxDigits+1), strings.Repeat("x", api.MaxDigits+1), strings.Repeat("1", 100000),
	} {
		wrong(s, api.ErrMany)
	}
}
