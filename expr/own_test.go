package expr

import (
	"slices"
	"testing"

	"hansom/api"
)

// answer is what all calls answer of pieces.
type answer struct {
	o       api.Operand
	v       api.Value
	oe, ve  api.Errno
	numbers [4]int
}

func ask(l []api.Token, t api.Table) (r answer) {
	r.o, r.oe = Operand(l, t)
	r.v, r.ve = Number(l, t)
	for i := range r.numbers {
		if i < len(l) {
			r.numbers[i] = Register(l[i].S)
		}
	}
	return r
}

// drawnLists draws lists of pieces, of which many are no operands.
func drawnLists(seed drawer, many int) [][]api.Token {
	var lists [][]api.Token
	for range many {
		l := seed.drawn(1+seed.below(4), false)
		if seed.below(4) == 0 {
			l[seed.below(len(l))] = alphabet()[seed.below(len(alphabet()))]
		}
		lists = append(lists, l)
	}
	return lists
}

// The same calls answer the same, whatever was asked between them, and change nothing that is handed in.
func TestSameAnswers(t *testing.T) {
	lists := drawnLists(32, 3000)
	table := told()
	var handed [][]api.Token
	var first []answer
	for _, l := range lists {
		handed = append(handed, slices.Clone(l))
		first = append(first, ask(l, table))
	}
	for i, l := range slices.Backward(lists) {
		if ask(l, table) != first[i] {
			t.Errorf("another answer of %s", show(l))
		}
		if !slices.Equal(l, handed[i]) {
			t.Errorf("%s is changed", show(handed[i]))
		}
	}
	if !slices.Equal(table.Names, told().Names) || !slices.Equal(table.Values, told().Values) || table.Here != told().Here {
		t.Error("the table is changed")
	}
}

// What was handed in may be changed behind the call, and have more room than it shows.
func TestNothingKept(t *testing.T) {
	for _, l := range drawnLists(33, 2000) {
		table := told()
		first := ask(l, table)
		room := append(slices.Clone(l), num(5), sign("+"), num(6))[:len(l)]
		if ask(room, table) != first {
			t.Errorf("%s: what stands behind it counts", show(l))
		}
		if room = room[:cap(room)]; room[len(l)] != num(5) {
			t.Errorf("%s: what stands behind it is changed", show(l))
		}
		got := first
		clear(table.Names)
		clear(table.Values)
		clear(room)
		if got != first || ask(l, told()) != first {
			t.Errorf("%s: another answer", show(l))
		}
	}
}

// With an error nothing else is told, and without one there is something.
func TestWhateverComes(t *testing.T) {
	d := drawer(34)
	letters := alphabet()
	for range 60000 {
		var l []api.Token
		for range d.below(9) {
			one := letters[d.below(len(letters))]
			if d.below(20) == 0 {
				one = api.Token{Kind: d.below(9) - 1, S: []string{"", "AX", "XW", "+", "[", "no name"}[d.below(6)], N: uint64(d.below(1 << 30))}
			}
			l = append(l, one)
		}
		r := ask(l, told())
		if r.oe != api.OK && (r.o != (api.Operand{}) || r.oe != api.ErrForm || r.ve != r.oe) || r.oe == api.OK && (r.o.Kind < api.OpdReg8 || r.o.Kind > api.OpdMem) {
			t.Errorf("%s: %+v", show(l), r)
		}
		if r.ve != api.OK && r.v != (api.Value{}) || r.ve == api.OK && r.v != r.o.V {
			t.Errorf("%s: number %+v", show(l), r)
		}
	}
}
