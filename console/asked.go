package console

import (
	"strconv"
	"strings"

	"basiskeep/api"
	"basiskeep/bag"
	"basiskeep/big"
	"basiskeep/lattice"
	"basiskeep/query"
	"basiskeep/vec"
)

// list of a catalog's lattices.
func list(c bag.Catalog) string {
	all := c.Lattices()
	parts := make([]string, len(all))
	for i := range len(all) {
		parts[i] = listed(all[i])
	}
	return joined(parts, "; ")
}

// listed: a lattice's name, its size and its generators.
func listed(x api.Named) string {
	parts := []string{x.Name, strconv.Itoa(x.N)}
	for i := range len(x.Gens) {
		parts = append(parts, vec.Text(vec.Of(x.Gens[i])))
	}
	return strings.Join(parts, " ")
}

// joined: parts with something between.
func joined(parts []string, between string) string {
	if len(parts) == 0 {
		return none
	}
	return strings.Join(parts, between)
}

// value of an expression's text, as the session sees lattices.
func (s *session) value(text string) (api.Basis, error) {
	e, err := query.Parse(text)
	if err != nil {
		return api.Basis{}, err
	}
	return query.Eval(e, s.over.View())
}

// basis of an expression: its rows.
func (s *session) basis(text string) (string, error) {
	b, err := s.value(text)
	if err != nil {
		return "", err
	}
	parts := make([]string, len(b.Rows))
	for row := range len(b.Rows) {
		parts[row] = vec.Text(b.Rows[row])
	}
	return joined(parts, " "), nil
}

// member: does a vector lie in the lattice of the expression behind it?
func (s *session) member(text string) (string, error) {
	// a vector without its end, or an expression that isn't there, is found out where it is read
	vector, expression, _ := strings.Cut(text, ") ")
	v, err := vec.Parse(vector + ")")
	if err != nil {
		return "", err
	}
	b, err := s.value(expression)
	if err != nil {
		return "", err
	}
	much, is, err := lattice.Member(b, v)
	if !is {
		return "no", err
	}
	return "yes " + vec.Text(much), err
}

// compare the lattices of two expressions, by what a word asks.
func (s *session) compare(word, text string) (string, error) {
	first, second, _ := strings.Cut(text, " / ")
	a, err := s.value(first)
	if err != nil {
		return "", err
	}
	b, err := s.value(second)
	if err != nil {
		return "", err
	}
	switch word {
	case "inside":
		is, err := lattice.Inside(a, b)
		return strconv.FormatBool(is), err
	case "index":
		many, err := lattice.Index(a, b)
		return big.Text(many), err
	}
	q, err := lattice.Quotient(a, b)
	return vec.Text(q.D) + " " + strconv.Itoa(q.Free), err
}
