package console_test

import (
	"fmt"
	"regexp"
	"slices"
	"strconv"
	"strings"
	"testing"

	"basiskeep/api"
	"basiskeep/bag"
	"basiskeep/console"
	"basiskeep/lattice"
	"basiskeep/pack"
	"basiskeep/query"
	"basiskeep/vec"
)

// run lines that aren't too many: as many answers.
func run(t *testing.T, lines ...string) []string {
	t.Helper()
	out, err := console.Run(lines)
	if err != nil || len(out) != len(lines) {
		t.Fatalf("%q: %d answers, %v", lines, len(out), err)
	}
	return out
}

// says: a session of lines, each with ' => ' and its answer.
func says(t *testing.T, session string) {
	t.Helper()
	var lines, want []string
	for _, s := range strings.Split(strings.Trim(session, "\n"), "\n") {
		line, answer, is := strings.Cut(s, " => ")
		if !is {
			t.Fatalf("no answer: %q", s)
		}
		lines, want = append(lines, line), append(want, answer)
	}
	out := run(t, lines...)
	for i := range out {
		if out[i] != want[i] {
			t.Errorf("line %d: %q => %q, wanted %q", i, lines[i], out[i], want[i])
		}
	}
}

// behind: the last one's answer, in a session of its own; those ahead may not be refused.
func behind(t *testing.T, ahead []string, line string) string {
	t.Helper()
	out := run(t, append(slices.Clone(ahead), line)...)
	for i := range ahead {
		if strings.HasPrefix(out[i], "error") {
			t.Fatalf("%q => %s", ahead[i], out[i])
		}
	}
	return out[len(ahead)]
}

// answers: these lines, each in a session of its own behind the same ones.
func answers(t *testing.T, ahead []string, want string, lines ...string) {
	t.Helper()
	for _, line := range lines {
		if got := behind(t, ahead, line); got != want {
			t.Errorf("%q => %q, wanted %q", line, got, want)
		}
	}
}

// plain: what a session is, over catalogs in memory: another way to answer lines.
type plain struct {
	is, deed bag.Catalog
	begun    bool
	many     int // operations of the deed
}

const numeral = `(?:0|-?[1-9][0-9]{0,3})`

var (
	opLine   = regexp.MustCompile(`^(create [^ ]+ ` + numeral + `|drop [^ ]+|(?:put|take) [^ ]+(?: ` + numeral + `)+)$`)
	diskLine = regexp.MustCompile(`^(?:arm|restart) ` + numeral + `$`)
	asked    = regexp.MustCompile(`(?s)^(basis|member|inside|index|quotient) (.*)$`)
)

// view of it.
func (p *plain) view() bag.Catalog {
	if p.begun {
		return p.deed
	}
	return p.is
}

// answer to a line.
func (p *plain) answer(line string) string {
	s, err := "ok", error(api.ErrText)
	switch {
	case len(line) > 200:
	case line == "list":
		s, err = p.list(), nil
	case line == "begin", line == "commit", line == "abort", line == "save":
		err = p.state(line)
	case opLine.MatchString(line):
		err = p.do(line)
	case diskLine.MatchString(line):
		// what is committed is kept, whatever else isn't
		err = nil
		if line[0] == 'r' {
			p.begun = false
		}
	case asked.MatchString(line):
		m := asked.FindStringSubmatch(line)
		s, err = p.asked(m[1], m[2])
	}
	if err != nil {
		return fmt.Sprintf("error %d", err)
	}
	return s
}

// state: a deed is begun, or ends.
func (p *plain) state(line string) error {
	if p.begun == (line == "begin" || line == "save") {
		return api.ErrState
	}
	switch line {
	case "begin":
		p.deed, p.begun, p.many = p.is, true, 0
	case "commit":
		p.is, p.begun = p.deed, false
	case "abort":
		p.begun = false
	}
	return nil
}

// do what an operation's line says.
func (p *plain) do(line string) error {
	w := strings.Split(line, " ")
	o := api.Op{Name: w[1]}
	for i, word := range []string{"create", "drop", "put", "take"} {
		if w[0] == word {
			o.Kind = i + 1
		}
	}
	for _, s := range w[2:] {
		n, _ := strconv.Atoi(s)
		if o.V = append(o.V, n); o.Kind == api.Create {
			o.N, o.V = n, nil
		}
	}
	if p.begun && p.many == 12 {
		return api.ErrMany
	}
	next, err := p.view().Apply(o)
	if err != nil {
		return err
	}
	if p.many++; p.begun {
		p.deed = next
	} else {
		p.is = next
	}
	return nil
}

// list: made of the catalog's text.
func (p *plain) list() string {
	text := pack.Text(p.view())
	if text == "" {
		return "-"
	}
	var out []string
	for _, line := range strings.Split(strings.TrimSuffix(text, "\n"), "\n") {
		parts := strings.Split(line, "; ")
		for i := range parts[1:] {
			parts[i+1] = "(" + parts[i+1] + ")"
		}
		out = append(out, strings.Join(parts, " "))
	}
	return strings.Join(out, "; ")
}

// value of an expression's text.
func (p *plain) value(s string) (api.Basis, error) {
	e, err := query.Parse(s)
	if err != nil {
		return api.Basis{}, err
	}
	return query.Eval(e, p.view())
}

// asked of expressions.
func (p *plain) asked(word, rest string) (string, error) {
	switch word {
	case "basis":
		b, err := p.value(rest)
		s := ""
		for _, v := range b.Rows {
			s += " " + vec.Text(v)
		}
		if s == "" {
			s = " -"
		}
		return s[1:], err
	case "member":
		return p.member(rest)
	}
	parts := append(strings.SplitN(rest, " / ", 2), "")
	a, err := p.value(parts[0])
	if err != nil {
		return "", err
	}
	b, err := p.value(parts[1])
	if err != nil {
		return "", err
	}
	switch word {
	case "inside":
		is, err := lattice.Inside(a, b)
		return fmt.Sprint(is), err
	case "index":
		n, err := lattice.Index(a, b)
		return strings.Trim(vec.Text(api.Vec{n}), "()"), err
	}
	q, err := lattice.Quotient(a, b)
	return fmt.Sprint(vec.Text(q.D), " ", q.Free), err
}

// member of an expression's lattice.
func (p *plain) member(rest string) (string, error) {
	text, e := rest+")", ""
	if at := strings.Index(rest, ") "); at >= 0 {
		text, e = rest[:at+1], rest[at+2:]
	}
	v, err := vec.Parse(text)
	if err != nil {
		return "", err
	}
	b, err := p.value(e)
	if err != nil {
		return "", err
	}
	much, is, err := lattice.Member(b, v)
	if is {
		return "yes " + vec.Text(much), err
	}
	return "no", err
}

// held: a session's answers against the plain one's, up to the first arm, from which on nothing is said; how often each was given is counted.
func held(t *testing.T, lines []string, count map[string]int) {
	t.Helper()
	p := &plain{}
	for i, got := range run(t, lines...) {
		want := p.answer(lines[i])
		if got != want {
			t.Fatalf("line %d of %q: %q => %q, wanted %q", i, lines, lines[i], got, want)
		}
		word, _, _ := strings.Cut(lines[i], " ")
		if strings.HasPrefix(want, "error ") {
			word = want
		}
		if count[word]++; word == "arm" {
			return
		}
	}
}

// heldAll: any many lines, in sessions with the same ones ahead; an arm ends one.
func heldAll(t *testing.T, ahead, lines []string, count map[string]int) {
	t.Helper()
	session := slices.Clone(ahead)
	for i, line := range lines {
		session = append(session, line)
		if len(session) == api.MaxLines || strings.HasPrefix(line, "arm ") || i == len(lines)-1 {
			held(t, session, count)
			session = slices.Clone(ahead)
		}
	}
}
