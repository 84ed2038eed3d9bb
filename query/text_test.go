package query_test

import (
	"math/rand/v2"
	"strings"
	"testing"

	"basiskeep/api"
	"basiskeep/query"
)

// L2: texts of each kind, and read back.
func TestTexts(t *testing.T) {
	a, b := name("a"), name("b2")
	for _, c := range []struct {
		e    api.Expr
		want string
	}{
		{a, "a"},
		{name("a2345678"), "a2345678"},
		{name("fills"), "fills"}, {name("fill2"), "fill2"}, {name("whole2"), "whole2"}, {name("fi"), "fi"},
		{whole(1), "whole 1"}, {whole(2), "whole 2"}, {whole(3), "whole 3"}, {whole(4), "whole 4"},
		{fill(a), "fill a"}, {fill(whole(2)), "fill whole 2"}, {fill(fill(b)), "fill fill b2"}, {fill(name("whole1")), "fill whole1"},
		{sum(a, b), "(a + b2)"}, {meet(a, b), "(a & b2)"}, {meet(b, a), "(b2 & a)"},
		{sum(whole(3), whole(3)), "(whole 3 + whole 3)"},
		{sum(fill(a), b), "(fill a + b2)"}, {fill(sum(a, b)), "fill (a + b2)"}, {sum(a, fill(b)), "(a + fill b2)"},
		{meet(sum(a, b), a), "((a + b2) & a)"}, {meet(a, sum(b, a)), "(a & (b2 + a))"},
		{sum(sum(a, b), meet(fill(a), whole(1))), "((a + b2) + (fill a & whole 1))"},
		{fills(5, a), "fill fill fill fill fill a"},
		{twenty(), "((((b & fill c) + a) + (a + a)) + ((fill d + a) + (a + fill whole 4)))"},
		{api.Expr{Kind: api.Called, S: "a", A: []api.Expr{}}, "a"},
	} {
		reread(t, c.e, c.want)
	}
}

// L2: texts that are nearly one.
func TestUnread(t *testing.T) {
	for _, s := range []string{
		"", " ", "a ", " a", "a a", "A", "1", "1a", "a_", "é", "\x00", "a\n", "\xff", "toolongna", "ninebytes",
		"fill", "whole", "fill ", "whole ", "fill  a", "fill\ta", "fill(a + b)", "fill fill", "fill whole", "fill whole ", "filla b", "fill a ", "fill )", "fill (a)",
		"whole 0", "whole 5", "whole -1", "whole +1", "whole 01", "whole 12", "whole 1 ", "whole  1", "whole a", "whole x1", "whole 1_", "whole 1a", "whole 99999999999999999999", "Whole 1", "whole 1)", "whole whole 1",
		"(", ")", "()", "(a)", "(a", "a)", "(a + b", "a + b", "a + b)", "(a +b)", "(a+ b)", "(a+b)", "(a  + b)", "(a +  b)", "( a + b)", "(a + b )", "(a + b) ", " (a + b)", "(a + b))", "((a + b)", "((a + b))",
		"(a - b)", "(a | b)", "(a * b)", "(a + )", "( + b)", "(a + b + c)", "(a + b & c)", "(a b)", "(a , b)", "(a ++ b)", "(a +& b)", "(a \x00 b)", "(a   b)",
		"(fill + a)", "(a + fill)", "(whole + a)", "(a + whole)", "(a + whole 5)", "(a + whole 1 )", "(a + b)c", "a(a + b)", "(a + b)(a + b)", "(a(b + c)", "fill (a + b", "(a\u00a0+ b)",
	} {
		unread(t, s)
		if isText(s) {
			t.Errorf("%q: told otherwise by the test", s)
		}
	}
}

// L2: what is too deep, or of too many parts, has no text; Z1: however long it is.
func TestUnreadMany(t *testing.T) {
	deepest := "fill fill fill fill fill a"
	if _, err := query.Parse(deepest); err != nil {
		t.Error(err)
	}
	unread(t, "fill "+deepest)
	unread(t, "("+deepest+" + a)")
	unread(t, "(a & "+deepest+")")
	many, _ := query.Text(twenty())
	if _, err := query.Parse(many); err != nil {
		t.Error(err)
	}
	unread(t, "fill "+many)
	unread(t, strings.Replace(many, "fill c", "fill fill c", 1))
	unread(t, strings.Replace(many, "whole 4", "(a + b)", 1))
	const long = 3_000_000
	for _, s := range []string{"(", ")", "fill ", "a", " ", "(a + ", "whole ", "whole 1", "1", "(fill ", "(a + a)", "+", " + ", "\xff"} {
		unread(t, strings.Repeat(s, long/len(s)))
	}
	unread(t, "whole "+strings.Repeat("1", long))
	unread(t, strings.Repeat("(", long)+"a"+strings.Repeat(" + a)", long))
	unread(t, strings.Repeat("fill ", long)+"a")
}

// L2, W7: all that is written is read, as it was.
func TestWrittenRead(t *testing.T) {
	r := rand.New(rand.NewPCG(11, 2))
	names := []string{"a", "b", "zz", "fil", "fill0", "whole1", "a2345678", "w"}
	deep := 0
	for range 20000 {
		e := drawnFit(r, names, []int{1, 2, 3, 4})
		s, err := query.Text(e)
		if err != nil || !isText(s) {
			t.Fatalf("%v: %q %v", e, s, err)
		}
		reread(t, e, s)
		if t.Failed() {
			return
		}
		if strings.Count(s, "fill ") == 5 {
			deep++
		}
	}
	if deep == 0 {
		t.Error("none of those drawn has five fills")
	}
}

// judged: is a text read just if it is one, and then as what is written so?
func judged(t *testing.T, s string) {
	t.Helper()
	e, err := query.Parse(s)
	if !isText(s) {
		if err != error(api.ErrText) || !alike(e, api.Expr{}) {
			t.Fatalf("%q: %v %v", s, e, err)
		}
		return
	}
	if again, wrong := query.Text(e); err != nil || wrong != nil || again != s {
		t.Fatalf("%q: %v %v: %q %v", s, e, err, again, wrong)
	}
}

// L2: texts with one byte more, less, or another one.
func TestNearlyTexts(t *testing.T) {
	r := rand.New(rand.NewPCG(11, 3))
	names := []string{"a", "b", "fill0", "a2345678"}
	for range 400 {
		s, err := query.Text(drawnFit(r, names, []int{1, 4}))
		if err != nil {
			t.Fatal(err)
		}
		for at := range len(s) {
			judged(t, s[:at])
			judged(t, s[at:])
			judged(t, s[:at]+s[at+1:])
			for _, b := range []string{"(", ")", " ", "+", "&", "a", "1", "5", "A", "\x00", "fill ", " + a"} {
				judged(t, s[:at]+b+s[at:])
				judged(t, s[:at]+b+s[at+1:])
			}
		}
	}
}

// all texts of up to so many of these pieces.
func all(pieces []string, many int, ahead string, do func(string)) {
	do(ahead)
	for i := 0; i < len(pieces) && many > 0; i++ {
		all(pieces, many-1, ahead+pieces[i], do)
	}
}

// L2: each short text, and each one of few words.
func TestShortTexts(t *testing.T) {
	read := map[string]bool{}
	keep := func(s string) {
		e, err := query.Parse(s)
		if err != nil && (err != error(api.ErrText) || !alike(e, api.Expr{})) {
			t.Fatalf("%q: %v %v", s, e, err)
		}
		if again, wrong := query.Text(e); err == nil && (wrong != nil || again != s) {
			t.Fatalf("%q: %v: %q %v", s, e, again, wrong)
		}
		if err == nil {
			read[s] = true
		}
	}
	all([]string{"(", ")", " ", "+", "a"}, 7, "", keep)
	if !read["(a + a)"] || !read["aaaaaaa"] || len(read) != 8 {
		t.Errorf("%v", read)
	}
	clear(read)
	all([]string{"(", ")", " + ", " & ", "fill ", "whole ", "3", "b"}, 6, "", func(s string) {
		keep(s)
		if read[s] != isText(s) {
			t.Fatalf("%q: %v", s, read[s])
		}
	})
	for _, s := range []string{"(b + b)", "(b3 & b)", "fill (b + b)", "(fill b + b)", "(b & fill b)", "fill fill fill whole 3", "(whole 3 + b)"} {
		if !read[s] {
			t.Errorf("%q isn't read", s)
		}
	}
}
