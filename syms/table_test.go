package syms

import (
	"slices"
	"testing"

	"hansom/api"
	"hansom/expr"
	"hansom/lex"
)

func TestTable(t *testing.T) {
	for _, one := range [][2]string{
		{"", ""},
		{"same same", ""},
		{"A:5", "A5"},
		{"A=5", "A5"},
		{"A=5 A=6", "A6"},
		{"B:5 A:6 C=7", "B5 A6 C7"},
		{"C:1 B:2 A:3 B:9! C:8!", "C1 B2 A3"},
		// The order of the first time counts, not that of the last one.
		{"B=5 A:6 B=7", "B7 A6"},
		{"B:5 A:6 other A:7 B:8", "B8 A7"},
		{"B:5 A:6 other C:1 A:7 B:8", "B8 A7 C1"},
		// What the pass ahead told.
		{"B:5 A:6 other", "B5 A6"},
		{"B:5 A=6 C:7 other", "B5 C7"},
		{"B=5 A=6 other", ""},
		{"B=5 A=6 other A=7", "A7"},
		{"B:5 A:6 other A:7", "B5 A7"},
		{"B:5 A:6 other C:7", "B5 A6 C7"},
		// What was told earlier alone is missing, but keeps its rank.
		{"B:5 A:6 other other", ""},
		{"B:5 A:6 other A:6 other", "A6"},
		{"B:5 A:6 other A:6 other B:1", "B1 A6"},
		{"C:5 other B:6 other A:7 other C:8", "C8 A7"},
		{"C:5 other B:6 other A:7 other C:8 B=9", "C8 B9 A7"},
		{"C=5 other other same A:1 C:2 other C:3", "C3 A1"},
	} {
		wantTable(t, play(t, one[0]), one[1])
	}
}

// What stands here is told as it is handed in, whatever is known.
func TestTableHere(t *testing.T) {
	for _, s := range []*Syms{New(), play(t, "A:5 B=6"), play(t, "A:5 B=6 other")} {
		for _, v := range append(kinds(), api.Value{}, here) {
			if got := s.Table(v); got.Here != v {
				t.Errorf("here is %+v, not %+v", got.Here, v)
			}
		}
	}
}

func TestTableOfMost(t *testing.T) {
	s := filled(t, api.MostSyms, false)
	wantPass(t, s, true)
	for i, name := range many(api.MostSyms) {
		if i%3 == 0 {
			tell(t, s, name, num(-i), i%2 == 0)
		}
	}
	got := s.Table(here)
	if !slices.Equal(got.Names, many(api.MostSyms)) || len(got.Values) != api.MostSyms || s.Len() != api.MostSyms {
		t.Fatalf("%d names, %d values", len(got.Names), len(got.Values))
	}
	for i, v := range got.Values {
		if i%3 == 0 && v != num(-i) || i%3 != 0 && v != num(i) {
			t.Errorf("value %d is %+v", i, v)
		}
	}
}

// What is in the table is what is got: each such name once, with its value beside it.
func wantWhole(t *testing.T, s *Syms, names []string) {
	t.Helper()
	table := s.Table(here)
	if len(table.Names) != len(table.Values) {
		t.Fatalf("%d names, %d values", len(table.Names), len(table.Values))
	}
	for _, name := range names {
		at := slices.Index(table.Names, name)
		v, ok := s.Get(name)
		if ok != (at >= 0) || ok && (v != table.Values[at] || slices.Contains(table.Names[at+1:], name)) {
			t.Errorf("%q is got as %+v, %v, and stands at %d", name, v, ok, at)
		}
	}
}

// Operands are read with the table.
func TestTableOfOperands(t *testing.T) {
	s := New()
	word := api.Value{N: 4, From: api.FromSeg, Which: 1, Type: api.TypeWord, Known: true}
	tell(t, s, "FIVE", num(5), false)
	tell(t, s, "X", word, false)
	tell(t, s, "R", num(1), true)
	for text, want := range map[string]api.Value{"FIVE+2": num(7), "X+FIVE": {N: 9, From: api.FromSeg, Which: 1, Type: api.TypeWord, Known: true}, "$": here, "R": num(1), "NOT_TOLD": {}} {
		if got, e := expr.Number(pieces(t, text), s.Table(here)); e != api.OK || got != want {
			t.Errorf("%s is %+v, %d, not %+v", text, got, e, want)
		}
	}
	wantPass(t, s, true)
	for text, want := range map[string]api.Value{"FIVE": num(5), "X": word, "R": {}} {
		if got, e := expr.Number(pieces(t, text), s.Table(here)); e != api.OK || got != want {
			t.Errorf("%s is %+v, %d in the next pass, not %+v", text, got, e, want)
		}
	}
}

func pieces(t *testing.T, text string) []api.Token {
	t.Helper()
	l, e := lex.Line(text)
	if e != api.OK {
		t.Fatalf("%q has no pieces", text)
	}
	return l
}
