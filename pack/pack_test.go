package pack_test

import (
	"math/rand/v2"
	"strings"
	"testing"

	"basiskeep/api"
	"basiskeep/bag"
	"basiskeep/pack"
)

// G1, G2: catalogs, and their texts.
func TestText(t *testing.T) {
	for _, x := range []struct {
		want string
		ops  []api.Op
	}{
		{"", nil},
		{"a 1\n", []api.Op{create("a", 1)}},
		{"a 4\n", []api.Op{create("a", 4)}},
		{"a 1; 0\n", []api.Op{create("a", 1), put("a", 0)}},
		{"a 2; 4 6; 2 4\n", []api.Op{create("a", 2), put("a", 4, 6), put("a", 2, 4)}},
		{"a 2; 2 4; 4 6; 2 4\n", []api.Op{create("a", 2), put("a", 2, 4), put("a", 4, 6), put("a", 2, 4)}},
		{"a 2\nb 3; -1 0 10\n", []api.Op{create("b", 3), create("a", 2), put("b", -1, 0, 10)}},
		{"z9 4; 999 -999 100 -10\n", []api.Op{create("z9", 4), put("z9", 999, -999, 100, -10)}},
		{"a 1\na0 1\naa 1; 7\nb 1\n", []api.Op{create("b", 1), create("aa", 1), put("aa", 7), create("a0", 1), create("a", 1)}},
	} {
		c := after(t, x.ops...)
		if got := pack.Text(c); got != x.want {
			t.Errorf("%q, wanted %q", got, x.want)
		}
		back, err := pack.Parse(x.want)
		if err != nil || told(back) != told(c) {
			t.Errorf("%q: %s %v", x.want, told(back), err)
		}
	}
}

// most: a catalog with all that one may have.
func most(t *testing.T) bag.Catalog {
	var ops []api.Op
	for i := range api.MaxNames {
		name := "abcdefg" + string([]byte{'0' + byte(i)})
		ops = append(ops, create(name, 4))
		for range api.MaxGens {
			ops = append(ops, put(name, -999, -999, -999, -999))
		}
	}
	return after(t, ops...)
}

// G1, G2: the edges of what a catalog may have.
func TestMost(t *testing.T) {
	c := most(t)
	s := pack.Text(c)
	if want := 8 * (8 + 2 + 10*21 + 1); len(s) != want {
		t.Errorf("%d bytes, wanted %d", len(s), want)
	}
	back, err := pack.Parse(s)
	if err != nil || told(back) != told(c) {
		t.Errorf("%s %v", told(back), err)
	}
	unread(t, s+"h 1\n")
	unread(t, s+s)
	unread(t, strings.Replace(s, "\n", "; 1 1 1 1\n", 1))
	unread(t, s[:len(s)-1])
	last := strings.LastIndex(s[:len(s)-1], "\n")
	if back, err := pack.Parse(s[:last+1]); err != nil || len(back.Lattices()) != api.MaxNames-1 {
		t.Errorf("%s %v", told(back), err)
	}
}

// G2: texts that are no catalog's.
func TestUnread(t *testing.T) {
	for _, s := range []string{
		"\n", " ", "a", "a\n", "a 1", "a 1\n\n", "\na 1\n", "a 1\r\n", "a 1\n ", " a 1\n", "a  1\n", "a 1 \n", "a\t1\n", "a 1\x00\n",
		"a 0\n", "a 5\n", "a -1\n", "a 01\n", "a +1\n", "a 1.0\n", "a x\n", "a \n", "a 1 1\n", "a 99999999999999999999\n", "a 18446744073709551617\n",
		"A 1\n", " 1\n", "1 1\n", "0a 1\n", "a_ 1\n", "ninebytes 1\n", "\xc3\xa4 1\n",
		"a 1;\n", "a 1; \n", "a 1 ;1\n", "a 1;1\n", "a 1;  1\n", "a 1; 1 \n", "a 1; 1;\n", "a 1; 1; \n", "a 1; ; 1\n", "a 1; 1 ; 2\n", "a 1, 1\n", "a 1; 1, 2\n",
		"a 1; 1 2\n", "a 2; 1\n", "a 2; 1 2 3\n", "a 2; 1  2\n", "a 4; 1 2 3 4 5\n", "a 4; 1 2 3\n", "a 4; 1 2 3 4 \n", "a 2; 1\n2\n",
		"a 1; 1000\n", "a 1; -1000\n", "a 1; 00\n", "a 1; -0\n", "a 1; +1\n", "a 1; 01\n", "a 1; -01\n", "a 1; 1_0\n", "a 1; 0x1\n", "a 1; --1\n", "a 1; -\n", "a 1; x\n",
		"a 1; 18446744073709551617\n", "a 1; \xd9\xa1\n",
		"b 1\na 1\n", "a 1\na 1\n", "a 1\na 2; 1 1\n", "aa 1\na 1\n", "a 1b 1\n", "a 1\nb 1", "a 1\nb\n",
	} {
		unread(t, s)
	}
}

// Z1: a text may be long, and is refused all the same.
func TestLongTexts(t *testing.T) {
	many := 1 << 20
	for _, s := range []string{"\n", "a", " ", ";", "; ", "; 1", "1", "a 1\n", "a 1; 1\n", "\xff"} {
		unread(t, strings.Repeat(s, many/len(s)))
		unread(t, "a 1"+strings.Repeat(s, many/len(s)))
		unread(t, "a 1; "+strings.Repeat(s, many/len(s)))
		unread(t, "a 1; 1"+strings.Repeat(s, many/len(s)))
	}
}

// G1, G2: what is written is read; what is changed in one place is read as what it then is, or not.
func TestTexts(t *testing.T) {
	r := rand.New(rand.NewPCG(7, 1))
	read := 0
	for range 500 {
		c := drawnCatalog(r)
		s := pack.Text(c)
		back, err := pack.Parse(s)
		if err != nil || told(back) != told(c) || pack.Text(back) != s {
			t.Fatalf("%q: %s %v", s, told(back), err)
		}
		if strings.Count(s, "\n") != len(c.Lattices()) {
			t.Fatalf("%q is of %s", s, told(c))
		}
		for range 20 {
			k := r.IntN(len(s) + 1)
			u := s[:k] + []string{"", "0", "1", "-", " ", ";", "; ", "\n", "a", "A", "+"}[r.IntN(11)] + s[min(len(s), k+r.IntN(3)):]
			x, err := pack.Parse(u)
			if err == nil && u != s {
				read++
			}
			if err == nil && pack.Text(x) != u || err != nil && err != error(api.ErrText) || err != nil && told(x) != "" {
				t.Fatalf("%q: %s %v", u, told(x), err)
			}
		}
	}
	if read < 500 {
		t.Errorf("%d changed texts were read: too few to tell", read)
	}
}

// G1, G2, Z2: a catalog stays as it is, and what is read can be worked with.
func TestCatalogStays(t *testing.T) {
	c := most(t)
	before := told(c)
	s := pack.Text(c)
	back, _ := pack.Parse(s)
	for range 3 {
		if pack.Text(c) != s || told(c) != before {
			t.Fatalf("%s", told(c))
		}
	}
	next, err := back.Apply(api.Op{Kind: api.Take, Name: "abcdefg3", V: []int{-999, -999, -999, -999}})
	if err != nil || told(back) != before || pack.Text(next) == s {
		t.Errorf("%s %v", told(next), err)
	}
}
