package line

import (
	"slices"
	"strings"
	"testing"

	"hansom/api"
)

// copied is a statement of its own.
func copied(s api.Stmt) api.Stmt {
	s.Pre = slices.Clone(s.Pre)
	s.Args = copiedParts(s.Args)
	return s
}

func copiedParts(l [][]api.Token) [][]api.Token {
	l = slices.Clone(l)
	for i := range l {
		l[i] = slices.Clone(l[i])
	}
	return l
}

// bend changes a list in all that there is room for.
func bend(l []api.Token) {
	for i := range l[:cap(l)] {
		l[:cap(l)][i] = api.Token{Kind: 9, S: "bent", N: 9, D: 9}
	}
}

func bendParts(parts [][]api.Token) {
	for i := range parts {
		bend(parts[i])
	}
	parts = parts[:cap(parts)]
	for i := range parts {
		parts[i] = []api.Token{{Kind: 9}}
	}
}

const much = "start: rep lock movs 'Text',(a,b),[bx+si],\"x\",5"

// What is split is not changed, and neither what is done to it later nor to the parts changes the other.
func TestSplitIsTheCallers(t *testing.T) {
	for _, s := range []string{"a", ",", "a,b", "a b,c d,e f", "(a,b),c,,d", ",,,", "a,", ",a", "'x',1%2,5,+"} {
		for room := range 4 {
			l := append(pieces(t, s), pieces(t, "x,x")...)
			cut := len(l) - 3
			before := slices.Clone(l)
			one, two := Split(l[:cut:cut+room]), Split(l[:cut])
			want := copiedParts(one)
			bendParts(one)
			if !slices.Equal(l, before) || !sameParts(two, want) {
				t.Errorf("%q: what was split, or another answer, is changed", s)
			}
			bend(l)
			if !sameParts(two, want) {
				t.Errorf("%q: what is split hangs on what was handed in", s)
			}
			for i := range two {
				two[i] = append(two[i], api.Token{Kind: 9})
			}
			for i := range two {
				if !slices.Equal(two[i][:len(two[i])-1], want[i]) {
					t.Errorf("%q: one part is in the room of another", s)
				}
			}
		}
	}
}

// What is answered is the caller's: another answer does not change with it.
func TestParseSharesNothing(t *testing.T) {
	for _, s := range []string{much, "a: nop", "x db 5,6,7", "rep", "rep lock repe movsb", "x = 5", "", "db ,,,"} {
		one, _ := Parse(s)
		two, _ := Parse(s)
		want := copied(two)
		bendParts(one.Args)
		for i := range one.Pre[:cap(one.Pre)] {
			one.Pre[:cap(one.Pre)][i] = "bent"
		}
		three, e := Parse(strings.Clone(s))
		if e != api.OK || !same(two, want) || !same(three, want) {
			t.Errorf("Parse(%q): %+v, %+v, not %+v", s, two, three, want)
		}
	}
}

// A text that a caller's bytes made is not that caller's.
func TestParseKeepsWhatItTold(t *testing.T) {
	b := []byte(much)
	s := string(b)
	got, e := Parse(s)
	want := copied(got)
	clear(b)
	if e != api.OK || s != much || !same(got, want) {
		t.Error(got)
	}
}

// The same calls answer the same, whatever was asked between them.
func TestSameAnswers(t *testing.T) {
	d := drawer(313)
	few := strings.Fields("a rep lock db = : , ( ) 5 'x' ; ! MOV x[")
	var lines []string
	for range 1000 {
		lines = append(lines, d.of(d.below(10), few, d.below(2)))
	}
	type answer struct {
		s             api.Stmt
		e             api.Errno
		named, prefix bool
	}
	var first []answer
	for _, text := range lines {
		s, e := Parse(text)
		first = append(first, answer{s, e, Named(text), Prefix(text)})
	}
	for i, text := range slices.Backward(lines) {
		s, e := Parse(text)
		if a := first[i]; !same(s, a.s) || e != a.e || Named(text) != a.named || Prefix(text) != a.prefix {
			t.Errorf("of %q: %+v, then %+v, %d", text, a, s, e)
		}
	}
}
