package console

import (
	"strconv"
	"strings"

	"basiskeep/api"
)

// farthest from nought that a number of a line may be.
const farthest = 9999

// number that a word is; false: it is none.
func number(word string) (int, bool) {
	n, err := strconv.Atoi(word)
	// what is read is more than what is told: '+', noughts ahead, nought with '-'
	if err != nil || strconv.Itoa(n) != word || n < -farthest || n > farthest {
		return 0, false
	}
	return n, true
}

// numbers that words are; false: one is none.
func numbers(words []string) ([]int, bool) {
	var out []int
	for i := range len(words) {
		n, is := number(words[i])
		if !is {
			return nil, false
		}
		out = append(out, n)
	}
	return out, true
}

// operate: do the operation of a line of that word.
func (s *session) operate(word, rest string) (string, error) {
	o, is := operation(word, rest)
	if !is {
		return "", api.ErrText
	}
	return done(s.over.Do(o))
}

// operation of a word, and of what stands behind it: a name and numbers; false: it is none. Whether the name may be one, the session tells.
func operation(word, rest string) (api.Op, bool) {
	words := strings.Split(rest, " ")
	name := words[0]
	v, is := numbers(words[1:])
	if !is || name == "" {
		return api.Op{}, false
	}
	switch {
	case word == "create" && len(v) == 1:
		return api.Op{Kind: api.Create, Name: name, N: v[0]}, true
	case word == "drop" && len(v) == 0:
		return api.Op{Kind: api.Drop, Name: name}, true
	case word == "put" && len(v) > 0:
		return api.Op{Kind: api.Put, Name: name, V: v}, true
	case word == "take" && len(v) > 0:
		return api.Op{Kind: api.Take, Name: name, V: v}, true
	}
	return api.Op{}, false
}
