package syms

import (
	"strings"
	"testing"

	"hansom/api"
)

func TestNewKnowsNothing(t *testing.T) {
	s := play(t, "#0 A? B? same #0 A? same #0")
	wantLost(t, s, "")
	wantTable(t, s, "")
	one, two := New(), New()
	tell(t, one, "A", num(5), false)
	wantLost(t, two, "A")
	if two.Len() != 0 {
		t.Error("what one knows, another one knows, too")
	}
}

func TestDefineInOnePass(t *testing.T) {
	for _, steps := range []string{
		"A:5 #1 A?5 B? #1",
		"A=5 #1 A?5 B? #1",
		"A:5 A:6! A?5 #1",
		"A:5 A:5! A?5 #1",
		"A=5 A:6! A?5 #1",
		"A:5 A=6! A?5 #1",
		"A=5 A:5! A?5 #1",
		"A:5 A=5! A?5 #1",
		"A=5 A=6 A?6 #1",
		"A=5 A=6 A=7 A?7 A=5 A?5 #1",
		"A=5 A=6 A:7! A?6 A=8 A?8 A:9! A?8 #1",
		"A:5 A=6! A=7! A:8! A?5 #1",
		"A:5 B:6 C=7 A:8! B=9! C:1! #3 A?5 B?6 C?7 D?",
		"A=5 B=6 A=7 A?7 B?6 B=8 A?7 B?8 #2",
		"A:0 A?0 A:1! A?0 #1",
	} {
		play(t, steps)
	}
}

func TestDefineInSeveralPasses(t *testing.T) {
	for _, steps := range []string{
		"A:5 other A:6 A?6 A:7! A?6 #1",
		"A:5 other A:5 same A:5 same A:5 A:5! A?5 #1",
		"A=5 other A:6 A=7! A?6 #1",
		"A:5 other A=6 A=7 A:8! A?7 #1",
		"A=5 other A=6 A=7 A?7 A:8! #1",
		"A:5 A:6! other A:7 A?7 #1",
		"A:5 other other A:6 A:7! A?6 #1",
		"A:5 other other same same same A:6 A?6 A:7! A=8! #1",
		"A:5 other B:6 #2 other A:7 A:8! B:9 B:1! #2",
	} {
		play(t, steps)
	}
}

// A name is any text, and just that one.
func TestNames(t *testing.T) {
	s := New()
	names := []string{"", " ", "A", "a", "AA", "A ", " A", "A\x00", "\x00", "\xff", "É", "?", "$", "@1", "_", "MOV", "AX", strings.Repeat("A", 255), strings.Repeat("A", 256), strings.Repeat("A", 70000)}
	for i, name := range names {
		wantLost(t, s, name)
		tell(t, s, name, num(i), i%2 == 0)
		if s.Len() != i+1 {
			t.Errorf("%d names behind %q", s.Len(), name)
		}
	}
	for i, name := range names {
		wantGot(t, s, name, num(i))
		if e := s.Define(name, num(i+1), i%2 != 0); e != api.ErrTwice {
			t.Errorf("Define(%q) once more: %d", name, e)
		}
		wantGot(t, s, name, num(i))
	}
}

// A value is got as it was told, whatever it is.
func TestValues(t *testing.T) {
	d := drawer(321)
	values := append(kinds(), api.Value{}, api.Value{N: -1 << 31}, api.Value{N: 1<<31 - 1}, api.Value{N: 1 << 40, From: -5, Which: -1, Type: 77, Wants: 12})
	for range 300 {
		values = append(values, api.Value{N: d.below(1<<31) - d.below(1<<31), From: d.below(5) - 1, Which: d.below(70), Type: d.below(104), Wants: d.below(4), Known: d.below(2) == 0})
	}
	for i, v := range values {
		s := New()
		tell(t, s, "A", v, i%2 == 0)
		wantGot(t, s, "A", v)
		if i%2 == 0 {
			tell(t, s, "A", values[i/2], true)
			wantGot(t, s, "A", values[i/2])
		}
		s = New()
		tell(t, s, "A", v, false)
		wantPass(t, s, true)
		wantGot(t, s, "A", v)
	}
}

// filled knows so many names.
func filled(t *testing.T, n int, free bool) *Syms {
	t.Helper()
	s := New()
	for i, name := range many(n) {
		tell(t, s, name, num(i), free)
	}
	if s.Len() != n {
		t.Fatalf("%d names are known, not %d", s.Len(), n)
	}
	return s
}

// wantFull: there is room for no other name, and what there is stays.
func wantFull(t *testing.T, s *Syms) {
	t.Helper()
	for _, name := range []string{"", "A", "n0", "N00", "N", "N400", "N401"} {
		for _, free := range []bool{false, true} {
			if e := s.Define(name, num(1), free); e != api.ErrBig {
				t.Errorf("Define(%q): %d where all are known", name, e)
			}
			wantLost(t, s, name)
		}
	}
	if s.Len() != api.MostSyms {
		t.Errorf("%d are known", s.Len())
	}
}

func TestMostSyms(t *testing.T) {
	for _, free := range []bool{false, true} {
		s := filled(t, api.MostSyms-1, free)
		tell(t, s, "LAST", num(5), free)
		wantFull(t, s)
		wantGot(t, s, "LAST", num(5))
		wantGot(t, s, "N0", num(0))
		wantGot(t, s, "N398", num(398))
		wantFull(t, filled(t, api.MostSyms, free))
	}
	if e := filled(t, api.MostSyms, false).Define("N400", num(0), false); e != api.ErrBig {
		t.Error("one more:", e)
	}
}

// Of a name that is known it does not count that there is no room: it is told, or told already.
func TestMostSymsOfKnown(t *testing.T) {
	for _, at := range []string{"N0", "N1", "N200", "N398", "N399"} {
		s := filled(t, api.MostSyms, false)
		for _, free := range []bool{false, true} {
			if e := s.Define(at, num(5), free); e != api.ErrTwice {
				t.Errorf("Define(%q) again: %d", at, e)
			}
		}
		wantPass(t, s, true)
		tell(t, s, at, num(1000), false)
		wantGot(t, s, at, num(1000))
		wantFull(t, s)
		s = filled(t, api.MostSyms, true)
		tell(t, s, at, num(2000), true)
		wantGot(t, s, at, num(2000))
		wantFull(t, s)
	}
}

// A name that an earlier pass told is known from then on, though nobody tells it any more: it takes its room.
func TestMostSymsOfEarlierPasses(t *testing.T) {
	for passes := 1; passes < 5; passes++ {
		for _, free := range []bool{false, true} {
			s := filled(t, api.MostSyms, free)
			for range passes {
				s.Pass()
			}
			wantFull(t, s)
			for i, name := range many(api.MostSyms) {
				tell(t, s, name, num(-i), i%2 == 0)
				wantGot(t, s, name, num(-i))
			}
			wantFull(t, s)
		}
	}
	s := filled(t, api.MostSyms-1, false)
	wantPass(t, s, true)
	wantPass(t, s, true)
	tell(t, s, "A", num(5), false)
	if e := s.Define("B", num(5), false); e != api.ErrBig {
		t.Error("one more in a later pass:", e)
	}
}
