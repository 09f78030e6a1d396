package syms

import (
	"slices"
	"testing"

	"hansom/api"
)

// telling is what was told once.
type telling struct {
	pass int
	name string
	v    api.Value
	free bool
}

// model keeps all that was told, and goes through it for each question.
type model struct {
	pass int
	told []telling
}

// names are all that were told, each where it was first.
func (m *model) names() []string {
	var l []string
	for _, one := range m.told {
		if !slices.Contains(l, one.name) {
			l = append(l, one.name)
		}
	}
	return l
}

// last is what a pass told of a name last.
func (m *model) last(name string, pass int) *telling {
	for i := len(m.told) - 1; i >= 0; i-- {
		if one := &m.told[i]; one.name == name && one.pass == pass {
			return one
		}
	}
	return nil
}

func (m *model) define(name string, v api.Value, free bool) api.Errno {
	names := m.names()
	before := m.last(name, m.pass)
	switch {
	case !slices.Contains(names, name) && len(names) == api.MostSyms:
		return api.ErrBig
	case before != nil && (!before.free || !free):
		return api.ErrTwice
	}
	m.told = append(m.told, telling{m.pass, name, v, free})
	return api.OK
}

func (m *model) get(name string) (api.Value, bool) {
	if one := m.last(name, m.pass); one != nil {
		return one.v, true
	}
	if one := m.last(name, m.pass-1); one != nil && !one.free {
		return one.v, true
	}
	return api.Value{}, false
}

func (m *model) next() bool {
	other := slices.ContainsFunc(m.names(), func(name string) bool {
		now, ahead := m.last(name, m.pass), m.last(name, m.pass-1)
		if now == nil || ahead == nil {
			return now != ahead
		}
		return !now.free && now.v != ahead.v
	})
	m.pass++
	return other
}

func (m *model) table(here api.Value) api.Table {
	t := api.Table{Here: here}
	for _, name := range m.names() {
		if v, ok := m.get(name); ok {
			t.Names, t.Values = append(t.Names, name), append(t.Values, v)
		}
	}
	return t
}

// two are what is asked, and the model beside it.
type two struct {
	s *Syms
	m model
}

// define tells both the same, and asks whether that came to the same.
func (b *two) define(name string, v api.Value, free bool) bool {
	return b.s.Define(name, v, free) == b.m.define(name, v, free)
}

func (b *two) pass() bool { return b.s.Pass() == b.m.next() }

func (b *two) get(name string) bool {
	v, ok := b.s.Get(name)
	want, is := b.m.get(name)
	return v == want && ok == is
}

// like asks for all that may be asked.
func (b *two) like(names []string) bool {
	for _, name := range names {
		if !b.get(name) {
			return false
		}
	}
	return b.s.Len() == len(b.m.names()) && sameTable(b.s.Table(here), b.m.table(here))
}

// The calls of short orders.
const letters = "AaUubB/"

// do is the call of a letter: A and U tell A, free and not, a and u the same with another value, b and B the same of B, / is another pass.
func (b *two) do(letter byte) bool {
	switch letter {
	case 'A', 'U':
		return b.define("A", num(1), letter == 'U')
	case 'a', 'u':
		return b.define("A", num(2), letter == 'u')
	case 'b', 'B':
		return b.define("B", num(1), letter == 'B')
	}
	return b.pass()
}

// after tries all orders of so many calls more behind those.
func after(t *testing.T, calls string, more int) int {
	b := two{s: New()}
	for i := range len(calls) {
		if !b.do(calls[i]) {
			t.Errorf("%s: call %d answers another thing", calls, i)
		}
	}
	if !b.like([]string{"A", "B", "C"}) {
		t.Errorf("%s: another thing is known", calls)
	}
	tried := 1
	if more > 0 {
		for i := range len(letters) {
			tried += after(t, calls+letters[i:i+1], more-1)
		}
	}
	return tried
}

// All short orders of calls.
func TestEveryShortOrder(t *testing.T) {
	if tried := after(t, "", 6); tried != (7*7*7*7*7*7*7-1)/6 {
		t.Error("tried", tried)
	}
}

// Drawn orders of all calls, of few names and of many.
func TestDrawnOrders(t *testing.T) {
	d := drawer(325)
	values := append(kinds(), num(1), num(2), api.Value{})
	for round := range 2000 {
		b := two{s: New()}
		names := many(1 + d.below(12))
		calls := ""
		for range 60 {
			name, v := names[d.below(len(names))], values[d.below(len(values))]
			if d.below(3) > 0 {
				// So that passes tell the same often enough.
				v = values[len(name)%len(values)]
			}
			ok := true
			switch d.below(8) {
			case 0:
				calls, ok = calls+" pass", b.pass()
			case 1:
				calls, ok = calls+" get "+name, b.get(name)
			case 2, 3:
				calls, ok = calls+" free "+name, b.define(name, v, true)
			default:
				calls, ok = calls+" define "+name, b.define(name, v, false)
			}
			if !ok || !b.like(names) {
				t.Fatalf("round %d:%s: another answer", round, calls)
			}
		}
		wantWhole(t, b.s, append(names, "NONE"))
	}
}

// Whole passes, that tell the same names in another order each, some of them otherwise or not at all.
func TestDrawnPasses(t *testing.T) {
	d := drawer(326)
	others := 0
	for range 500 {
		b := two{s: New()}
		names := many(1 + d.below(8))
		values := make([]api.Value, len(names))
		frees := make([]bool, len(names))
		for i := range names {
			values[i], frees[i] = kinds()[d.below(7)], d.below(3) == 0
		}
		for pass := range 8 {
			start := d.below(len(names))
			for i := range names {
				at := (start + i) % len(names)
				switch d.below(12) {
				case 0:
					values[at] = kinds()[d.below(7)]
				case 1:
					continue
				}
				if !b.define(names[at], values[at], frees[at]) || !b.get(names[at]) {
					t.Fatal("another answer in pass", pass)
				}
			}
			if other := b.s.Pass(); other != b.m.next() || !b.like(names) {
				t.Fatal("another answer behind pass", pass)
			} else if other {
				others++
			}
		}
	}
	if others < 1000 || others > 3500 {
		t.Error("others:", others)
	}
}

// Orders in which there are more names than there may be.
func TestDrawnOrdersOfMost(t *testing.T) {
	d := drawer(327)
	names := many(api.MostSyms + 20)
	for range 4 {
		b := two{s: New()}
		errors := map[api.Errno]int{}
		for range 1500 {
			name, v, free := names[d.below(len(names))], num(d.below(3)), d.below(2) == 0
			got, want := b.s.Define(name, v, free), b.m.define(name, v, free)
			errors[got]++
			if got != want || d.below(100) == 0 && !b.pass() {
				t.Fatalf("%q: %d, not %d", name, got, want)
			}
		}
		if !b.like(names) || errors[api.ErrBig] == 0 || errors[api.ErrTwice] == 0 || b.s.Len() != api.MostSyms {
			t.Errorf("%d are known, %v", b.s.Len(), errors)
		}
	}
}
