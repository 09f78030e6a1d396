package lex

import (
	"slices"
	"strings"
	"testing"

	"hansom/api"
)

const much = "Start: MOV ax,'Text'+\"other\";12H"

// What is told of a text that a caller's bytes made is not that caller's: these may become others.
func TestLineKeepsWhatItTold(t *testing.T) {
	b := []byte(much)
	s := string(b)
	l, e := Line(s)
	want := slices.Clone(l)
	for i := range b {
		b[i] = '!'
	}
	again, _ := Line(strings.Clone(much))
	if e != api.OK || s != much || !slices.Equal(l, want) || !slices.Equal(again, want) {
		t.Error("another answer", l, again)
	}
}

// An answer is the caller's own: what is done to it, and to what there is room for behind it, changes no other one.
func TestLineSharesNothing(t *testing.T) {
	for _, s := range []string{much, "a", "1%2", "''", "+", "a b c d e f g"} {
		one, _ := Line(s)
		two, _ := Line(s)
		want := slices.Clone(two)
		for i := range one[:cap(one)] {
			one[:cap(one)][i] = api.Token{Kind: 9, S: "bent", N: 9, D: 9}
		}
		three, e := Line(s)
		if e != api.OK || !slices.Equal(two, want) || !slices.Equal(three, want) {
			t.Errorf("Line(%q): %v, %v, not %v", s, two, three, want)
		}
	}
}

// The same calls answer the same, whatever was asked between them.
func TestSameAnswers(t *testing.T) {
	d := drawer(283)
	var lines []string
	for range 500 {
		lines = append(lines, d.text(d.below(40), "aB1h%'\" ;+,!"))
	}
	type answer struct {
		l     []api.Token
		e     api.Errno
		n     uint64
		ok    bool
		great string
	}
	ask := func(s string) (a answer) {
		a.l, a.e = Line(s)
		a.n, a.ok = Number(s)
		a.great = Upper(s)
		return a
	}
	var first []answer
	for _, s := range lines {
		first = append(first, ask(s))
	}
	for i, s := range slices.Backward(lines) {
		a, b := first[i], ask(s)
		if !slices.Equal(a.l, b.l) || a.e != b.e || a.n != b.n || a.ok != b.ok || a.great != b.great {
			t.Errorf("of %q: %v, then %v", s, a, b)
		}
	}
}

// A field that its kind doesn't ask for is none.
func TestFieldsWithoutMeaning(t *testing.T) {
	l, _ := Line("a 1 'b' + 3%4 12H")
	for _, one := range l {
		hasN := one.Kind == api.TokNum || one.Kind == api.TokRatio
		if hasN == (one.S != "") || !hasN && one.N != 0 || one.Kind != api.TokRatio && one.D != 0 {
			t.Error(one)
		}
	}
	if len(l) != 6 {
		t.Error(l)
	}
}
