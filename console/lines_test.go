package console_test

import (
	"fmt"
	"math/rand/v2"
	"slices"
	"strings"
	"testing"

	"basiskeep/api"
	"basiskeep/console"
)

// M1: numbers from -9999 to 9999, in each line that has one; M2: others are none.
func TestNumbers(t *testing.T) {
	var lines []string
	for n := -10100; n <= 10100; n++ {
		lines = append(lines, fmt.Sprint("put a ", n))
	}
	for _, n := range []string{"0", "1", "-1", "999", "-999", "1000", "9999", "-9999", "10000", "-10000", "10001", "99999", "00", "01", "-0", "-01", "09999", "+1", "+0", "1.", "1.0", "1e1", "0x1", "0b1", "0o7", "1_0", "--1", "-", "", "x", "1x", "x1", "١", "1\n", "\n1", "\t1", "1\t", "1\x00", "9223372036854775807", "9223372036854775808", "-9223372036854775808", "18446744073709551616", "4294967296", "65536"} {
		for _, line := range []string{"create a N", "put a N", "put a 1 N", "put a N 1", "take a N", "take a 1 1 N", "arm N", "restart N", "drop N", "create N 1"} {
			lines = append(lines, strings.ReplaceAll(line, "N", n))
		}
	}
	heldAll(t, nil, lines, map[string]int{})
	heldAll(t, []string{"create a 1"}, lines, map[string]int{})
	answers(t, nil, "ok", "arm 9999", "arm -9999", "restart 9999", "restart -9999", "arm 0", "restart -1", "arm -1", "create a 1")
	answers(t, nil, "error 5", "arm 10000", "arm -10000", "restart 10000", "restart -10000", "restart -0", "arm 00", "create a 10000", "create a 01")
	answers(t, nil, "error 7", "put a 9999", "put a -9999", "take a 0 9999")
	answers(t, nil, "error 5", "put a 10000", "put a -10000", "take a 0 10000", "put A x", "take a -0")
}

// M2: a line of MaxLine bytes is answered; one of more isn't read, whatever it would be.
func TestLineLong(t *testing.T) {
	for many := 1; many <= 300; many++ {
		over := many > api.MaxLine
		if many >= len("put a 1 1") && many%2 == 1 {
			line := "put a" + strings.Repeat(" 1", (many-5)/2)
			want := "error 6"
			if over {
				want = "error 5"
			}
			answers(t, []string{"create a 1"}, want, line)
		}
		if digits := many - len("member () whole 1"); digits > 0 {
			number := strings.Repeat("7", digits)
			want := "yes (" + number + ")"
			if over {
				want = "error 5"
			}
			answers(t, nil, want, "member ("+number+") whole 1")
		}
		answers(t, nil, "error 5", strings.Repeat("x", many), strings.Repeat(" ", many), "list"+strings.Repeat(" ", many), "begin"+strings.Repeat("\x00", many))
	}
	answers(t, nil, "error 5", strings.Repeat("list", 1<<20), strings.Repeat("basis (", 1<<20), "put a"+strings.Repeat(" 1", 1<<20))
}

// right: lines of each kind.
func right() []string {
	return []string{
		"create a 2", "drop a", "put a 1 -2", "take a 3 4", "begin", "commit", "abort", "save", "list",
		"basis a", "basis (a + b)", "basis fill (a & b)", "basis whole 2", "member (6 10) a", "member (1 2) (a & whole 2)",
		"inside a / b", "index (a & b) / fill a", "quotient a / whole 2", "arm -1", "restart 0",
	}
}

// nearly: lines that are a change away from a right one, with some that are right.
func nearly(line string) []string {
	var out []string
	for at := range len(line) + 1 {
		for _, s := range []string{" ", "  ", "\t", "\n", "0", "1", "a", "A", "(", ")", "-", "/", "+", ";", "\x00", "é", "\xff"} {
			out = append(out, line[:at]+s+line[at:])
			if at < len(line) {
				out = append(out, line[:at]+s+line[at+1:])
			}
		}
		if at < len(line) {
			out = append(out, line[:at]+line[at+1:])
		}
		out = append(out, line[:at], line[at:])
	}
	words := strings.Split(line, " ")
	for i := range words {
		out = append(out, strings.Join(slices.Delete(slices.Clone(words), i, i+1), " "))
		out = append(out, strings.Join(slices.Insert(slices.Clone(words), i, words[i]), " "))
	}
	for _, s := range []string{strings.ToUpper(line), line + line, line + " " + line, strings.ReplaceAll(line, " ", ""), strings.ReplaceAll(line, " ", "  "), " " + line + " ", line + "\r\n"} {
		out = append(out, s)
	}
	return out
}

// M1, M2: lines that are nearly one of these, in sessions with lattices, with a deed that is begun, and with nothing.
func TestNearly(t *testing.T) {
	count := map[string]int{}
	for _, ahead := range [][]string{
		nil,
		{"create a 2", "put a 4 6", "put a 2 4", "create b 2", "put b 3 4"},
		{"create a 2", "put a 3 4", "begin", "create b 3", "put b 1 0 1"},
	} {
		for _, line := range right() {
			heldAll(t, ahead, nearly(line), count)
		}
	}
	for _, what := range []string{"error 5", "error 7", "error 3", "error 11", "list", "basis", "member", "put", "create", "arm", "restart"} {
		if count[what] < 10 {
			t.Errorf("%s was answered %d times: too few to tell", what, count[what])
		}
	}
}

// drawnExpr: the text of an expression, or nearly.
func drawnExpr(r *rand.Rand, deep int) string {
	if deep > 0 {
		switch r.IntN(5) {
		case 0:
			return "fill " + drawnExpr(r, deep-1)
		case 1, 2:
			return "(" + drawnExpr(r, deep-1) + []string{" + ", " & "}[r.IntN(2)] + drawnExpr(r, deep-1) + ")"
		}
	}
	if r.IntN(60) == 0 {
		return []string{"", "q", "(a", "fill", "whole 5", "a b", "A"}[r.IntN(7)]
	}
	return []string{"a", "a", "a", "b", "b", "b", "c", "whole 2", "whole 2", "whole 3"}[r.IntN(10)]
}

// drawnVec: numbers with blanks between; often one of a few, so that it is met again.
func drawnVec(r *rand.Rand) string {
	if r.IntN(2) == 0 {
		return []string{"2 0", "0 3", "4 6"}[r.IntN(3)]
	}
	var l []string
	for range []int{1, 2, 2, 2, 2, 2, 2, 2, 3}[r.IntN(9)] {
		l = append(l, fmt.Sprint([]int{r.IntN(3) - 1, r.IntN(13) - 6, r.IntN(2003) - 1001}[r.IntN(3)]))
	}
	return strings.Join(l, " ")
}

// drawnLine: a line of any kind, most often a right one.
func drawnLine(r *rand.Rand) string {
	name := string("aaaaabbbbbcccccdddA"[r.IntN(19)])
	line := ""
	switch r.IntN(20) {
	case 0, 1:
		line = fmt.Sprint("create ", name, " ", []int{1, 2, 2, 2, 2, 2, 3, 5}[r.IntN(8)])
		if r.IntN(6) == 0 {
			line = "drop " + name
		}
	case 2, 3, 4, 5, 6, 7, 8:
		line = "put " + name + " " + drawnVec(r)
	case 9:
		line = "take " + name + " " + drawnVec(r)
	case 10, 11:
		line = []string{"begin", "begin", "begin", "commit", "commit", "abort", "save", "restart 0", "restart -1"}[r.IntN(9)]
	case 12:
		line = "list"
	case 13, 14:
		line = "basis " + drawnExpr(r, 3)
	case 15, 16:
		line = "member (" + drawnVec(r) + ") " + drawnExpr(r, 2)
	default:
		line = []string{"inside ", "index ", "quotient "}[r.IntN(3)] + drawnExpr(r, 2) + " / " + drawnExpr(r, 2)
	}
	if r.IntN(30) == 0 {
		all := nearly(line)
		line = all[r.IntN(len(all))]
	}
	return line
}

// M1, M2: drawn sessions, held against catalogs in memory.
func TestDrawn(t *testing.T) {
	r := rand.New(rand.NewPCG(12, 1))
	count := map[string]int{}
	for range 1500 {
		lines := []string{"create a 2", "create b 2"}
		for range 5 + r.IntN(api.MaxLines-6) {
			lines = append(lines, drawnLine(r))
		}
		held(t, lines, count)
	}
	for _, what := range []string{
		"create", "drop", "put", "take", "begin", "commit", "abort", "save", "list", "basis", "member", "inside", "index", "quotient", "restart",
		"error 1", "error 2", "error 3", "error 5", "error 6", "error 7", "error 8", "error 11", "error 12", "error 13",
	} {
		if count[what] < 20 {
			t.Errorf("%s was answered %d times: too few to tell", what, count[what])
		}
	}
}

// M2, Z1: from the first arm on every line is answered, too, whatever falls.
func TestArmed(t *testing.T) {
	r := rand.New(rand.NewPCG(12, 2))
	count := 0
	for range 1500 {
		var lines []string
		for range api.MaxLines {
			line := drawnLine(r)
			switch r.IntN(8) {
			case 0:
				line = fmt.Sprint("arm ", r.IntN(12)-1)
			case 1:
				line = fmt.Sprint("restart ", r.IntN(300)-50)
			}
			lines = append(lines, line)
		}
		for _, s := range run(t, lines...) {
			if s == "" {
				t.Fatalf("no answer: %q", lines)
			}
			if s == "error 9" {
				count++
			}
		}
	}
	if count < 1000 {
		t.Errorf("%d falls were answered: too few to tell", count)
	}
}

// W5: behind a fall at any step, with any of what was written kept, a deed is there whole or not at all, and lines go on.
func TestFalls(t *testing.T) {
	count := map[string]int{}
	const was, next = "a 1 (1)", "a 1 (1) (2) (3); b 2"
	for step := range 12 {
		for keep := range 32 {
			out := run(t, "create a 1", "put a 1", "begin", "put a 2", "put a 3", "create b 2", fmt.Sprint("arm ", step), "commit", fmt.Sprint("restart ", keep), "list", "create z 1", "restart 0", "list")
			got := out[9]
			if got != next && (got != was || out[7] == "ok") || out[8] != "ok" || out[10] != "ok" || out[12] != got+"; z 1" {
				t.Fatalf("behind %d steps, %b kept: %q", step, keep, out)
			}
			count[got]++
		}
	}
	if count[was] < 50 || count[next] < 50 {
		t.Errorf("%v: too few to tell", count)
	}
}

// M1: a restart keeps of what was written that whose bit is set in its number, modulo 2 to the power 64: where a deed hangs on one write alone, the lowest bit tells.
func TestKept(t *testing.T) {
	listed := func(step, keep int) string {
		return run(t, "begin", "create a 1", "put a 5", fmt.Sprint("arm ", step), "commit", fmt.Sprint("restart ", keep), "list")[6]
	}
	const was, next = "-", "a 1 (5)"
	count := 0
	for step := range 12 {
		if listed(step, 0) != was || listed(step, -1) != next {
			continue
		}
		count++
		for keep := -20; keep <= 20; keep++ {
			want := was
			if keep%2 != 0 {
				want = next
			}
			if got := listed(step, keep); got != want {
				t.Errorf("behind %d steps, restart %d: %q", step, keep, got)
			}
		}
	}
	if count != 1 {
		t.Errorf("%d steps at which a deed hangs on what is kept", count)
	}
}

// Z1: any bytes are answered.
func TestAnyBytes(t *testing.T) {
	r := rand.New(rand.NewPCG(12, 3))
	words := append(right(), "create", "put", "member", "index", " ", " ", " ", "(", ")", ") ", " / ", "/", "a", "whole", "fill", "-", "1", "999", "+", "&", "\x00", "\xff", "é", "\n")
	for range 1000 {
		var lines []string
		for range api.MaxLines {
			line := ""
			for range r.IntN(8) {
				line += words[r.IntN(len(words))]
			}
			lines = append(lines, line)
		}
		heldAll(t, nil, lines, map[string]int{})
	}
}

// Z2: lines aren't written into, nor is what stands behind them read; answers are the caller's.
func TestMemory(t *testing.T) {
	all := append(right(), "list", "create z 1", "list")
	many := len(right()) + 1
	was := slices.Clone(all)
	first := run(t, all[:many]...)
	if !slices.Equal(all, was) {
		t.Errorf("%q", all)
	}
	want := slices.Clone(first)
	second := run(t, all[:many]...)
	for i := range first[:cap(first)] {
		first[:cap(first)][i] = "spoilt"
	}
	if !slices.Equal(second, want) || !slices.Equal(run(t, all[:many]...), want) || !slices.Equal(all, was) {
		t.Errorf("%q, wanted %q", second, want)
	}
	for i := range all {
		all[i] = "spoilt"
	}
	if !slices.Equal(second, want) {
		t.Errorf("%q, wanted %q", second, want)
	}
}

// Z2: sessions know nothing of each other: each begins with a new disk.
func TestApart(t *testing.T) {
	for range 3 {
		says(t, "list => -\ncreate a 1 => ok\nbegin => ok\ncreate b 1 => ok\nlist => a 1; b 1")
		if out, err := console.Run(make([]string, api.MaxLines+1)); len(out) != 0 || err != error(api.ErrMany) {
			t.Errorf("%v %v", out, err)
		}
		says(t, "arm 0 => ok\nsave => error 9")
	}
}
