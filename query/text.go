package query

import (
	"strconv"
	"strings"

	"basiskeep/api"
)

// Words of an expression's text.
const (
	fillWord  = "fill"
	wholeWord = "whole"
)

// signs between two, by the kinds of what has two.
func signs() map[int]byte {
	return map[int]byte{api.Sum: '+', api.Meet: '&'}
}

// Text of an expression.
func Text(e api.Expr) (string, error) {
	if err := Check(e); err != nil {
		return "", err
	}
	return written(e), nil
}

// written: the text of an expression that was checked.
func written(e api.Expr) string {
	switch e.Kind {
	case api.Called:
		return e.S
	case api.Fill:
		return fillWord + " " + written(e.A[0])
	case api.Whole:
		return wholeWord + " " + strconv.Itoa(e.N)
	}
	return "(" + written(e.A[0]) + spaced(signs()[e.Kind]) + written(e.A[1]) + ")"
}

// spaced: a sign, with a blank on each side.
func spaced(sign byte) string { return string([]byte{' ', sign, ' '}) }

// Parse an expression.
func Parse(s string) (api.Expr, error) {
	e, _, is := read(s, api.MaxDeep)
	if !is {
		return api.Expr{}, api.ErrText
	}
	// a text is read as what it may mean: that alone is right that would be written so
	if text, err := Text(e); err != nil || text != s {
		return api.Expr{}, api.ErrText
	}
	return e, nil
}

// read the expression with which a text may begin, no deeper than so; what is behind it; false: there is none. Whether it is one, Check tells.
func read(s string, deep int) (api.Expr, string, bool) {
	// not left to Check: a text of opening brackets would be followed as deep as it is long
	if deep < 1 {
		return api.Expr{}, "", false
	}
	if rest, is := strings.CutPrefix(s, "("); is {
		return readTwo(rest, deep-1)
	}
	if rest, is := strings.CutPrefix(s, fillWord+" "); is {
		e, rest, is := read(rest, deep-1)
		return api.Expr{Kind: api.Fill, A: []api.Expr{e}}, rest, is
	}
	if rest, is := strings.CutPrefix(s, wholeWord+" "); is {
		number, rest := word(rest)
		n, err := strconv.Atoi(number)
		return api.Expr{Kind: api.Whole, N: n}, rest, err == nil
	}
	name, rest := word(s)
	return api.Expr{Kind: api.Called, S: name}, rest, true
}

// readTwo: what stands behind an opening bracket, up to the closing one.
func readTwo(s string, deep int) (api.Expr, string, bool) {
	first, rest, is := read(s, deep)
	if !is {
		return api.Expr{}, "", false
	}
	kind, rest, is := readSign(rest)
	if !is {
		return api.Expr{}, "", false
	}
	second, rest, is := read(rest, deep)
	if !is {
		return api.Expr{}, "", false
	}
	rest, is = strings.CutPrefix(rest, ")")
	return api.Expr{Kind: kind, A: []api.Expr{first, second}}, rest, is
}

// readSign: the kind of what has the sign with which a text begins.
func readSign(s string) (int, string, bool) {
	for _, kind := range []int{api.Sum, api.Meet} {
		if rest, is := strings.CutPrefix(s, spaced(signs()[kind])); is {
			return kind, rest, true
		}
	}
	return 0, "", false
}

// word: what stands ahead of the first blank or closing bracket, and the rest.
func word(s string) (string, string) {
	end := strings.IndexAny(s, " )")
	if end < 0 {
		end = len(s)
	}
	return s[:end], s[end:]
}
