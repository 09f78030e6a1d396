package syms

import (
	"testing"

	"hansom/api"
)

// Of none there is an error, and nothing.
func TestOfNone(t *testing.T) {
	var s *Syms
	for range 2 {
		for _, free := range []bool{false, true} {
			for _, name := range []string{"", "A"} {
				if e := s.Define(name, num(5), free); e != api.ErrInput {
					t.Errorf("Define(%q): %d", name, e)
				}
				wantLost(t, s, name)
			}
		}
		if table := s.Table(here); len(table.Names) != 0 || len(table.Values) != 0 || table.Here != (api.Value{}) {
			t.Errorf("Table: %+v", table)
		}
		wantPass(t, s, false)
		if s.Len() != 0 {
			t.Errorf("Len: %d", s.Len())
		}
	}
}

// What no call made knows nothing, too, and may be told things.
func TestOfNoCall(t *testing.T) {
	var s Syms
	wantLost(t, &s, "A")
	wantTable(t, &s, "")
	wantPass(t, &s, false)
	tell(t, &s, "A", num(5), false)
	wantGot(t, &s, "A", num(5))
	wantTable(t, &s, "A5")
}

// bend changes all that there is room for in a table.
func bend(t api.Table) {
	names, values := t.Names[:cap(t.Names)], t.Values[:cap(t.Values)]
	for i := range names {
		names[i] = "BENT"
	}
	for i := range values {
		values[i] = api.Value{N: -77, Which: 9}
	}
}

// What is answered is the caller's: it isn't changed by what comes behind it, and changes nothing that is known.
func TestTableIsTheCallers(t *testing.T) {
	for _, steps := range []string{"A:5", "B=5 A:6", "A:5 B:6 C:7 other B:8 D=9", "A:5 B:6 other"} {
		s := play(t, steps)
		one, two, want := s.Table(here), s.Table(here), play(t, steps).Table(here)
		bend(one)
		if !sameTable(two, want) || !sameTable(s.Table(here), want) {
			t.Errorf("%s: what is done to a table counts", steps)
		}
		wantLost(t, s, "BENT")
		wantWhole(t, s, []string{"A", "B", "C", "D", "BENT"})
		// The table stays as it was, whatever is told, and in whichever pass.
		s.Define("B", num(100), true)
		s.Define("E", num(101), false)
		s.Pass()
		s.Define("A", num(102), false)
		s.Pass()
		s.Pass()
		if !sameTable(two, want) {
			t.Errorf("%s: %+v became %+v", steps, want, two)
		}
		// Nor may what is put behind it reach what is known.
		_ = append(two.Names, "BEHIND")
		_ = append(two.Values, num(9))
		wantLost(t, s, "BEHIND")
	}
}

// Values and names that were handed in stay as they were, and may be others later.
func TestNothingHandedInIsChanged(t *testing.T) {
	values := kinds()
	s := New()
	for i, name := range many(len(values)) {
		tell(t, s, name, values[i], i%2 == 0)
	}
	s.Pass()
	s.Table(values[0])
	for i, v := range kinds() {
		if values[i] != v {
			t.Errorf("value %d is changed", i)
		}
	}
	v, text := num(5), []byte("NAME")
	tell(t, s, string(text), v, false)
	v.N, text[0] = 6, 'X'
	wantGot(t, s, "NAME", num(5))
	wantLost(t, s, string(text))
	got, _ := s.Get("NAME")
	got.N = 8
	wantGot(t, s, "NAME", num(5))
	if got.N != 8 || v.N != 6 {
		t.Error("a value is changed")
	}
}

// The same calls in the same order answer the same; asking between them changes nothing.
func TestSameAnswers(t *testing.T) {
	for round := range 200 {
		one, other := drawer(round), drawer(round)
		a, b := New(), New()
		names := many(6)
		for range 100 {
			if x, y := drawnCall(&one, a, names), drawnCall(&other, b, names); x != y {
				t.Fatalf("round %d: %d and %d", round, x, y)
			}
			for _, name := range names {
				v, ok := a.Get(name)
				again, is := a.Get(name)
				if v != again || ok != is {
					t.Errorf("%q is got otherwise", name)
				}
			}
			if a.Len() != a.Len() || !sameTable(a.Table(here), a.Table(here)) {
				t.Error("another table")
			}
		}
		if a.Len() != b.Len() || !sameTable(a.Table(here), b.Table(here)) {
			t.Errorf("round %d: other tables", round)
		}
	}
}

// drawnCall does a drawn call, and tells what came of it, as a number.
func drawnCall(d *drawer, s *Syms, names []string) int {
	name, n, free := names[d.below(len(names))], d.below(3), d.below(2) == 0
	if d.below(6) > 0 {
		return int(s.Define(name, num(n), free))
	}
	if s.Pass() {
		return -1
	}
	return -2
}
