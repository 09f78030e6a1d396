package syms

import "testing"

func TestPass(t *testing.T) {
	for _, steps := range []string{
		// Nothing is told in either pass.
		"same", "same same same #0", "A:5 other other same same #1",
		// Something is told in this pass alone.
		"A:5 other", "A=5 other", "same A:5 other", "same A=5 other", "A:5 other A:5 B:6 other", "A:5 other A:5 B=6 other", "A=5 other A=5 B=6 other", "A:0 other", "A=0 other",
		// Something is told in the one ahead alone.
		"A:5 other other", "A=5 other other", "A:5 B:6 other A:5 other", "A:5 B:6 other B:6 other", "A=5 B=6 other B=6 other", "A:5 B=6 other A:5 other", "A:0 other other", "A=0 other other",
		// The same in both.
		"A:5 other A:5 same", "A:5 B:6 C=7 other C=7 B:6 A:5 same", "A=5 other A=5 same", "A:0 other A:0 same",
		// Another thing.
		"A:5 other A:6 other", "A:5 B:6 other A:5 B:7 other", "A:5 B:6 other A:7 B:6 other", "A:5 B:6 other A:6 B:5 other", "A:0 other A:1 other", "A:1 other A:0 other",
		// What is free may mean another thing.
		"A=5 other A=6 same", "A=5 A=6 other A=7 same", "A=5 other A=6 A=7 A=8 same A=9 same", "A=5 B:6 other A=7 B:6 same", "A=5 B:6 other A=7 B:8 other", "A=5 B:6 other A=5 B:8 other",
		// What can't be told does not count.
		"A:5 A:6! other A:5 same", "A:5 other A:5 A:6! A=7! same", "A:5 other A:6 A:5! other",
		// Several passes.
		"A:5 other A:5 same A:5 same A:5 same", "A:5 other A:6 other A:6 same A:6 same", "A:5 other A:6 other A:5 other A:5 same", "A:5 other other A:5 other A:5 same",
		"A:5 other other A:6 other A:6 same", "A=5 other A=5 same A=6 same other same", "A:5 B:6 other A:5 other B:6 other A:5 other A:5 same",
		// As free now as it was not ahead, and the other way round: how it was told in the pass that ends counts.
		"A:5 other A=5 same A:5 same", "A:5 other A=6 same", "A=5 other A:6 other", "A=5 other A:5 same", "A=5 A=6 other A:6 same", "A=5 A=6 other A:5 other",
	} {
		play(t, steps)
	}
}

// Each part of a value is of what a name means; of a name that is free none is.
func TestPassOfEachPart(t *testing.T) {
	for i, a := range kinds() {
		for j, b := range kinds() {
			for _, free := range []bool{false, true} {
				s := New()
				tell(t, s, "B", num(1), false)
				tell(t, s, "A", a, free)
				wantPass(t, s, true)
				tell(t, s, "A", b, free)
				tell(t, s, "B", num(1), false)
				wantPass(t, s, i != j && !free)
				tell(t, s, "B", num(1), false)
				tell(t, s, "A", b, free)
				wantPass(t, s, false)
			}
		}
	}
}

// One of many names is enough, wherever it stands among them.
func TestPassOfMany(t *testing.T) {
	names := many(50)
	for which := range names {
		for _, how := range []string{"same", "other", "missing", "free"} {
			s := New()
			for i, name := range names {
				tell(t, s, name, num(i), how == "free")
			}
			wantPass(t, s, true)
			for i, name := range names {
				switch {
				case i != which || how == "same":
					tell(t, s, name, num(i), how == "free")
				case how != "missing":
					tell(t, s, name, num(-1), how == "free")
				}
			}
			wantPass(t, s, how == "other" || how == "missing")
			for i, name := range names {
				if v, ok := s.Get(name); how == "same" && (!ok || v != num(i)) || how == "free" && ok {
					t.Errorf("%s: %q is got as %+v, %v", how, name, v, ok)
				}
			}
		}
	}
}
