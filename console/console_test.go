package console_test

import (
	"fmt"
	"strings"
	"testing"

	"basiskeep/api"
	"basiskeep/console"
)

// M1, M2: the document's session.
func TestDocument(t *testing.T) {
	says(t, `
create a 2 => ok
put a 4 6 => ok
put a 2 4 => ok
basis a => (2 0) (0 2)
member (6 10) a => yes (3 5)
member (1 0) a => no
index a / whole 2 => 4
quotient a / whole 2 => (2 2) 0
begin => ok
create b 2 => ok
put b 3 0 => ok
put b 0 5 => ok
list => a 2 (4 6) (2 4); b 2 (3 0) (0 5)
abort => ok
list => a 2 (4 6) (2 4)
begin => ok
create b 2 => ok
put b 3 0 => ok
put b 0 5 => ok
commit => ok
basis (a + b) => (1 0) (0 1)
basis (a & b) => (6 0) (0 10)
index (a & b) / a => 15
quotient (a & b) / whole 2 => (2 30) 0
inside (a & b) / b => true
create c 3 => ok
put c 2 4 6 => ok
basis c => (2 4 6)
basis fill c => (1 2 3)
index c / fill c => 2
index c / whole 3 => error 13
quotient c / whole 3 => (2) 2
take a 2 4 => ok
basis a => (4 6)
index a / whole 2 => error 13
save => ok
restart 0 => ok
list => a 2 (4 6); b 2 (3 0) (0 5); c 3 (2 4 6)
put c 1 2 => error 6
put a 1000 0 => error 1
put z 1 => error 7
create a 2 => error 8
basis (a + c) => error 6
basis (a => error 5
commit => error 11
arm 1 => ok
put a 1 1 => error 9
put a 1 1 => error 9
restart 1 => ok
list => a 2 (4 6); b 2 (3 0) (0 5); c 3 (2 4 6)
fly => error 5
`)
}

// M1: up to MaxLines lines, and no more, whatever they are.
func TestHowMany(t *testing.T) {
	for _, line := range []string{"list", "", "fly", "begin", strings.Repeat("x", 1000)} {
		lines := make([]string, api.MaxLines+1)
		for i := range lines {
			lines[i] = line
		}
		for _, many := range []int{0, 1, 2, api.MaxLines - 1, api.MaxLines} {
			run(t, lines[:many]...)
		}
		if out, err := console.Run(lines); len(out) != 0 || err != error(api.ErrMany) {
			t.Errorf("%q: %d answers, %v", line, len(out), err)
		}
	}
	if out, err := console.Run(nil); len(out) != 0 || err != nil {
		t.Errorf("%v %v", out, err)
	}
	if out, err := console.Run(make([]string, 100000)); len(out) != 0 || err != error(api.ErrMany) {
		t.Errorf("%v %v", out, err)
	}
}

// M1: what is done to lattices, and what is listed.
func TestOperations(t *testing.T) {
	says(t, `
list => -
create b 1 => ok
list => b 1
create a 4 => ok
put b -999 => ok
put b 999 => ok
put b 0 => ok
put a 1 -2 3 -4 => ok
create a1 2 => ok
list => a 4 (1 -2 3 -4); a1 2; b 1 (-999) (999) (0)
take b 999 => ok
take b 999 => error 7
put b -999 => ok
put b 0 => ok
take b -999 => ok
list => a 4 (1 -2 3 -4); a1 2; b 1 (0) (-999) (0)
drop a1 => ok
drop a1 => error 7
drop a => ok
list => b 1 (0) (-999) (0)
drop b => ok
list => -
`)
}

// M2: which errors operations have, by their numbers.
func TestOperationsWrong(t *testing.T) {
	says(t, `
create a 0 => error 1
create a 5 => error 1
create a -1 => error 1
create a 9999 => error 1
create a -9999 => error 1
list => -
create a 2 => ok
create a 2 => error 8
create a 9 => error 1
put a 1 1000 => error 1
put a -1000 1 => error 1
put a 9999 -9999 => error 1
put a 1 => error 6
put a 1 2 3 => error 6
put a 1 2 3 4 5 6 7 8 9 => error 6
take a 1 => error 6
take a 1 1000 => error 1
take a 1 2 => error 7
put b 1 => error 7
take b 1000 => error 7
drop b => error 7
create A 2 => error 3
create a-b 2 => error 3
create ninebytes 9 => error 3
create 1 1 => error 3
drop A => error 3
put (a 1 => error 3
take a, 1 => error 3
list => a 2
`)
}

// M2: too many lattices, generators, and operations of a deed.
func TestOperationsMany(t *testing.T) {
	says(t, `
begin => ok
create h 1 => ok
create g 1 => ok
create f 1 => ok
create e 1 => ok
create d 1 => ok
create c 1 => ok
create b 1 => ok
create a 1 => ok
create i 1 => error 2
put a 1 => ok
put a 2 => ok
put a 3 => ok
put a 4 => ok
put a 5 => error 2
drop zz => error 2
put a => error 5
commit => ok
put a 5 => ok
put a 6 => ok
put a 7 => ok
put a 8 => ok
put a 9 => ok
put a 10 => ok
put a 11 => error 2
take a 1 => ok
put a 11 => ok
create i 1 => error 2
list => a 1 (2) (3) (4) (5) (6) (7) (8) (9) (10) (11); b 1; c 1; d 1; e 1; f 1; g 1; h 1
`)
}

// M1, M2: deeds are begun, and come to be or not; what is asked is asked of the session's view.
func TestDeeds(t *testing.T) {
	says(t, `
commit => error 11
abort => error 11
save => ok
begin => ok
begin => error 11
save => error 11
create a 1 => ok
put a 6 => ok
basis a => (6)
member (12) a => yes (2)
index a / whole 1 => 6
list => a 1 (6)
abort => ok
abort => error 11
commit => error 11
basis a => error 7
list => -
begin => ok
create a 1 => ok
put a 4 => ok
put a 1000 => error 1
commit => ok
commit => error 11
begin => ok
put a 6 => ok
inside a / whole 1 => true
basis a => (2)
drop a => ok
basis a => error 7
member (4) a => error 7
abort => ok
basis a => (4)
save => ok
begin => ok
commit => ok
list => a 1 (4)
`)
}

// M1: a restart makes nothing of a deed that is begun, and keeps all that was committed.
func TestRestart(t *testing.T) {
	for _, n := range []int{0, 1, -1, 2, 9999, -9999, 4095} {
		says(t, strings.ReplaceAll(`
create a 1 => ok
begin => ok
put a 3 => ok
restart N => ok
list => a 1
commit => error 11
begin => ok
put a 5 => ok
commit => ok
restart N => ok
list => a 1 (5)
save => ok
restart N => ok
restart N => ok
list => a 1 (5)
begin => ok
restart N => ok
begin => ok
list => a 1 (5)
`, "N", fmt.Sprint(n)))
	}
}

// M1: a session that is longer than its log, with nothing of it lost.
func TestLong(t *testing.T) {
	lines := []string{"create a 1"}
	for i := range 24 {
		lines = append(lines, fmt.Sprint("put a ", i), "restart 0", fmt.Sprint("take a ", i))
	}
	lines = append(lines, "put a 77", "restart 0", "list")
	out := run(t, lines...)
	for i := range out[:len(out)-1] {
		if out[i] != "ok" {
			t.Errorf("%q => %q", lines[i], out[i])
		}
	}
	if got := out[len(out)-1]; got != "a 1 (77)" {
		t.Errorf("%q", got)
	}
}

// M1: rows of a basis.
func TestBasis(t *testing.T) {
	says(t, `
create e 3 => ok
basis e => -
basis fill e => -
basis (e & whole 3) => -
basis (e + whole 3) => (1 0 0) (0 1 0) (0 0 1)
basis whole 1 => (1)
basis whole 4 => (1 0 0 0) (0 1 0 0) (0 0 1 0) (0 0 0 1)
put e 0 0 0 => ok
basis e => -
put e -4 6 8 => ok
basis e => (4 -6 -8)
basis fill e => (2 -3 -4)
basis fill fill fill fill fill e => (2 -3 -4)
basis fill fill fill fill fill fill e => error 5
basis zz => error 7
basis fill zz => error 7
basis (e + whole 2) => error 6
basis ((e + whole 2) & zz) => error 6
basis (zz & (e + whole 2)) => error 7
create fill 1 => ok
basis fill => error 5
basis whole => error 5
basis whole 5 => error 5
basis whole 0 => error 5
basis  e => error 5
basis e  => error 5
basis (e+e) => error 5
basis => error 5
basis (e => error 5
basis e) => error 5
basis E => error 5
`)
}

// M1: what lies in a lattice, and how; which error is told first.
func TestMember(t *testing.T) {
	says(t, `
create a 2 => ok
put a 4 6 => ok
put a 2 4 => ok
create e 1 => ok
member (0 0) a => yes (0 0)
member (-6 10) a => yes (-3 5)
member (1 2) a => no
member (7 -2) whole 2 => yes (7 -2)
member (3 3) (a & whole 2) => no
member (4 2) fill (a & whole 2) => yes (4 2)
member (0) e => yes ()
member (1) e => no
member (123456789012345678901234567890 -20000) whole 2 => yes (123456789012345678901234567890 -20000)
member (2000000000000000000000000000000000000000000000 20000) a => yes (1000000000000000000000000000000000000000000000 10000)
member (1) a => error 6
member (1 2 3) a => error 6
member (1 2 3 4 5 6 7 8) a => error 6
member (1 2 3 4 5 6 7 8) zz => error 7
member (1 2 3 4 5 6 7 8 9) zz => error 6
member (1 2 3 4 5 6 7 8 x) (a => error 6
member (1 2) zz => error 7
member (1 2 3) zz => error 7
member (1 x) zz => error 5
member (1 2) (a => error 5
member (1 2) (a + whole 1) => error 6
member (1 2)) a => error 5
member (1 2) => error 5
member (1 2 => error 5
member (1 2)a => error 5
member (1 2)  a => error 5
member  (1 2) a => error 5
member ( 1 2) a => error 5
member (1  2) a => error 5
member (1 2 ) a => error 5
member (01 2) a => error 5
member (-0 2) a => error 5
member () a => error 5
member 1 2) a => error 5
member 1 2 a => error 5
member a (1 2) => error 5
member a => error 5
member () => error 5
member => error 5
`)
	answers(t, nil, "error 5", "member (1 2) ", "member ", "member ) ", "member (", "member () ", "member) a", "member(1) a")
	answers(t, nil, "error 6", "member (1 2 3 4 5 6 7 8 9", "member (1 2 3 4 5 6 7 8 9)", "member (        ", "member (1 2 3 4 5 6 7 8 9) ")
}

// M1: what is asked of two.
func TestTwo(t *testing.T) {
	says(t, `
create a 2 => ok
put a 2 0 => ok
put a 0 3 => ok
create b 2 => ok
put b 4 0 => ok
create e 2 => ok
create z 1 => ok
inside b / a => true
inside a / b => false
inside e / e => true
inside a / a => true
inside a / (b + a) => true
index a / whole 2 => 6
index whole 2 / a => error 12
index b / a => error 13
index a / b => error 12
index a / a => 1
index e / e => 1
index b / fill b => 4
index (a & b) / b => 1
quotient a / whole 2 => (6) 0
quotient b / a => (2) 1
quotient b / whole 2 => (4) 1
quotient a / b => error 12
quotient a / a => () 0
quotient e / e => () 0
quotient e / a => () 2
quotient e / z => error 6
inside z / e => error 6
index whole 2 / z => error 6
`)
	ahead := []string{"create a 1", "put a 999", "create b 1", "put b 998"}
	answers(t, ahead, "997002", "index (a & b) / whole 1", "index (b & a) / (b + a)")
	answers(t, ahead, "(997002) 0", "quotient (a & b) / whole 1")
}

// M1: both are asked, the first one first; a second one that isn't there is empty.
func TestTwoWrong(t *testing.T) {
	ahead := []string{"create a 2", "create z 1"}
	for _, word := range []string{"inside", "index", "quotient"} {
		for _, c := range []struct {
			want string
			rest []string
		}{
			{"error 5", []string{" a", " whole 2", " ", "", " a / ", " / a", " / ", "  / a", "  / ", " a /", " a/a", " a / / a", " a  / a", " a /  a", " a / a ", "  a / a"}},
			{"error 5", []string{" a / a / a", " (a / a)", " (a / qq", " a / (a", " a , a", " a / A", " a / whole 5", " A / a", " a + a", " a / a a", "\ta / a", " a\t/ a"}},
			{"error 7", []string{" q", " q / ", " q / a", " a / q", " q / (a", " q / z", " q / (a + z)", " q / qq / q", " fill q / a", " z / q"}},
			{"error 6", []string{" a / z", " z / a", " (a + z)", " (a + z) / q", " (a + z) / (", " a / (a & z)", " whole 1 / whole 2"}},
		} {
			for _, rest := range c.rest {
				answers(t, ahead, c.want, word+rest)
			}
		}
	}
}
