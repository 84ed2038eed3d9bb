package vec

import (
	"strings"

	"basiskeep/api"
	"basiskeep/big"
)

// Text of a vector.
func Text(v api.Vec) string {
	parts := make([]string, len(v))
	for at := range len(v) {
		parts[at] = big.Text(v[at])
	}
	return "(" + strings.Join(parts, " ") + ")"
}

// Parse a vector.
func Parse(s string) (api.Vec, error) {
	if len(s) < 2 || s[0] != '(' || s[len(s)-1] != ')' {
		return nil, api.ErrText
	}
	inner := s[1 : len(s)-1]
	// counted ahead of cutting, so that a text of many blanks takes no room
	if strings.Count(inner, " ") >= api.MaxCols {
		return nil, api.ErrSize
	}
	parts := strings.Split(inner, " ")
	out := make(api.Vec, len(parts))
	for at := range len(parts) {
		number, err := big.Parse(parts[at])
		if err != nil {
			return nil, err
		}
		out[at] = number
	}
	return out, nil
}
