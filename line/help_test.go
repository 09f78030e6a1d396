package line

import (
	"fmt"
	"slices"
	"strings"
	"testing"

	"hansom/api"
	"hansom/lex"
)

// drawer draws numbers by a rule.
type drawer uint64

func (d *drawer) below(n int) int {
	*d = *d*6364136223846793005 + 1442695040888963407
	return int(uint64(*d>>33) % uint64(n))
}

// of draws a text of so many of those, with as many blanks as that behind each.
func (d *drawer) of(many int, from []string, blanks int) string {
	s := ""
	for range many {
		s += from[d.below(len(from))] + strings.Repeat(" ", blanks)
	}
	return s
}

// The words, as tests know them.
var (
	prefixes = []string{"LOCK", "REP", "REPE", "REPZ", "REPNE", "REPNZ"}
	naming   = []string{"SEGMENT", "ENDS", "GROUP", "EQU", "=", "PROC", "ENDP", "DB", "DW", "DD", "DQ"}
	others   = []string{
		"MOV", "MOVSB", "NOP", "RET", "ASSUME", "EXTRN", "PUBLIC", "COMM", "ORG", "EVEN", "END", "DUP", "OFFSET", "SEG", "PTR", "BYTE", "NEAR", "AX",
		"A", "X", "?", "$", "@1", "_", "DT", "D", "DBX", "XDB", "EQ", "EQUS", "SEGMENTS", "SEG", "PROCS", "ENDPS", "END", "GROUPS", "REPS", "RE", "LOC", "LOCKS", "REPN", "REPEZ", "REPNEZ", "REPC", "XREP",
	}
)

// pieces are those of a text.
func pieces(t *testing.T, s string) []api.Token {
	t.Helper()
	l, e := lex.Line(s)
	if e != api.OK {
		t.Fatalf("%q has no pieces", s)
	}
	return l
}

// stmt is what a line says, with a label and a colon, prefixes (blanks between them), what is to be done, and operands, which are parted by bars.
func stmt(t *testing.T, label string, colon bool, pre, op, args string) api.Stmt {
	t.Helper()
	s := api.Stmt{Label: label, Colon: colon, Pre: strings.Fields(pre), Op: op}
	if args == "" {
		return s
	}
	for _, one := range strings.Split(args, "|") {
		s.Args = append(s.Args, pieces(t, one))
	}
	return s
}

// same: both say the same; lists that are empty are alike.
func same(a, b api.Stmt) bool {
	return a.Label == b.Label && a.Colon == b.Colon && a.Op == b.Op && slices.Equal(a.Pre, b.Pre) && sameParts(a.Args, b.Args)
}

func sameParts(a, b [][]api.Token) bool { return slices.EqualFunc(a, b, slices.Equal[[]api.Token]) }

// wantLine: a line says that.
func wantLine(t *testing.T, text string, want api.Stmt) {
	t.Helper()
	if got, e := Parse(text); e != api.OK || !same(got, want) {
		t.Errorf("Parse(%q): %+v, %d, not %+v", text, got, e, want)
	}
}

// wantWrong: a line says nothing, and nothing is told beside that.
func wantWrong(t *testing.T, text string, want api.Errno) {
	t.Helper()
	if got, e := Parse(text); e != want || !same(got, api.Stmt{}) {
		t.Errorf("Parse(%q): %+v, %d, not %d", text, got, e, want)
	}
}

// wantSplit: the pieces of a text are parted so: by bars between the parts.
func wantSplit(t *testing.T, text, want string) {
	t.Helper()
	wantParts(t, pieces(t, text), stmt(t, "", false, "", "", want).Args)
}

// wantParts: pieces are parted so.
func wantParts(t *testing.T, l []api.Token, want [][]api.Token) {
	t.Helper()
	if got := Split(l); !sameParts(got, want) {
		t.Errorf("Split(%s): %s, not %s", show(l), shown(got), shown(want))
	}
}

// show is pieces as a text.
func show(l []api.Token) string {
	s := ""
	for _, t := range l {
		s += fmt.Sprintf("%d:%q:%d:%d ", t.Kind, t.S, t.N, t.D)
	}
	return s
}

func shown(parts [][]api.Token) string {
	s := ""
	for _, l := range parts {
		s += "{" + show(l) + "}"
	}
	return s
}
