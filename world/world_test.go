package world

import (
	"math"
	"slices"
	"testing"

	"hansom/api"
)

// drawer draws words by a rule.
type drawer uint32

func (d *drawer) word() uint16 {
	*d = *d*1664525 + 1013904223
	return uint16(*d >> 16)
}

// below is a drawn number below another one.
func (d *drawer) below(n int) int { return int(d.word()) % n }

// drawnWords are so many words that are drawn by a rule.
func drawnWords(many int) []uint16 {
	d := drawer(97531)
	l := make([]uint16, many)
	for i := range l {
		l[i] = d.word()
	}
	return l
}

// lists are replies: none, one, and many; most have an upper byte that is not 0.
func lists() [][]uint16 {
	return [][]uint16{
		nil, {}, {0}, {7}, {0xff00}, {0xffff}, {0x0100, 0x00ff}, {0, 0, 0},
		{0x1234, 0xabcd, 0x8000, 0x7fff, 0x00ff, 0xff00, 0x0001}, drawnWords(100),
	}
}

// behind is reply number i of a list: 0 behind the last one.
func behind(l []uint16, i int) uint16 {
	if i < len(l) {
		return l[i]
	}
	return 0
}

// asked is how many a world of a list has used, that was asked so many times.
func asked(l []uint16, times int) int { return min(len(l), times) }

// stops are kinds: those that tell why a machine stops, others, and numbers that there is no kind of.
func stops() []int {
	return []int{
		api.EvHalt, api.EvFault, api.EvBad, 0, api.EvIn, api.EvOut, api.EvInt, 7, -1,
		255, 256, 1 << 16, 1<<16 + api.EvHalt, 1 << 32, math.MaxInt32, math.MaxInt, math.MinInt32, math.MinInt,
	}
}

func wantEvents(t *testing.T, w *World, want ...api.Event) {
	t.Helper()
	if got := w.Events(); !slices.Equal(got, want) {
		t.Fatalf("events are %+v, want %+v", got, want)
	}
}

func TestRepliesOfInAsWords(t *testing.T) {
	for _, l := range lists() {
		w := New(l)
		if w.Used() != 0 || len(w.Events()) != 0 {
			t.Errorf("a new world: %d used, %+v", w.Used(), w.Events())
		}
		for i := range len(l) + 5 {
			port := uint16(1000 + i)
			if v := w.In(port, true); v != behind(l, i) {
				t.Fatalf("of %x, reply %d is %#x", l, i, v)
			}
			if w.Used() != asked(l, i+1) {
				t.Fatalf("of %x, behind reply %d %d are used", l, i, w.Used())
			}
			events := w.Events()
			if want := (api.Event{Kind: 1, N: port, V: behind(l, i)}); len(events) != i+1 || events[i] != want {
				t.Fatalf("of %x, behind reply %d: %+v", l, i, events)
			}
		}
	}
}

func TestRepliesOfInAsBytes(t *testing.T) {
	for _, l := range lists() {
		w := New(l)
		for i := range len(l) + 5 {
			port := uint16(0xfffe - i)
			want := behind(l, i) & 0xff
			if v := w.In(port, false); v != want {
				t.Fatalf("of %x, reply %d is %#x", l, i, v)
			}
			if w.Used() != asked(l, i+1) {
				t.Fatalf("of %x, behind reply %d %d are used", l, i, w.Used())
			}
			events := w.Events()
			if e := (api.Event{Kind: 1, N: port, V: want}); len(events) != i+1 || events[i] != e {
				t.Fatalf("of %x, behind reply %d: %+v", l, i, events)
			}
		}
	}
}

func TestRepliesOfInt(t *testing.T) {
	for _, l := range lists() {
		w := New(l)
		for i := range len(l) + 5 {
			n, a := byte(0x21+i%3), uint16(0x4b00+i)
			v, end := w.Int(n, a, 2, 3, 4)
			if v != behind(l, i) || end {
				t.Fatalf("of %x, reply %d is %#x, %v", l, i, v, end)
			}
			if w.Used() != asked(l, i+1) {
				t.Fatalf("of %x, behind reply %d %d are used", l, i, w.Used())
			}
			events := w.Events()
			want := api.Event{Kind: 3, N: uint16(n), V: behind(l, i), A: a, B: 2, C: 3, D: 4}
			if len(events) != i+1 || events[i] != want {
				t.Fatalf("of %x, behind reply %d: %+v", l, i, events)
			}
		}
	}
}

// A byte uses a whole reply: the upper byte doesn't come later.
func TestRepliesOfInAndIntMixed(t *testing.T) {
	w := New([]uint16{0x1122, 0x3344, 0x5566, 0x7788, 0x99aa})
	if v := w.In(1, false); v != 0x22 || w.Used() != 1 {
		t.Errorf("%#x, %d used", v, w.Used())
	}
	if v := w.In(2, true); v != 0x3344 || w.Used() != 2 {
		t.Errorf("%#x, %d used", v, w.Used())
	}
	if v, end := w.Int(0x10, 9, 8, 7, 6); v != 0x5566 || end || w.Used() != 3 {
		t.Errorf("%#x, %v, %d used", v, end, w.Used())
	}
	if v := w.In(3, false); v != 0x88 || w.Used() != 4 {
		t.Errorf("%#x, %d used", v, w.Used())
	}
	if v, end := w.Int(0x21, 0x4d4c, 8, 7, 6); v != 0x99aa || end || w.Used() != 5 {
		t.Errorf("%#x, %v, %d used", v, end, w.Used())
	}
	if v := w.In(4, true); v != 0 || w.Used() != 5 {
		t.Errorf("%#x, %d used", v, w.Used())
	}
	if v, end := w.Int(0x22, 0x4c00, 8, 7, 6); v != 0 || end || w.Used() != 5 {
		t.Errorf("%#x, %v, %d used", v, end, w.Used())
	}
	wantEvents(t, w,
		api.Event{Kind: 1, N: 1, V: 0x22},
		api.Event{Kind: 1, N: 2, V: 0x3344},
		api.Event{Kind: 3, N: 0x10, V: 0x5566, A: 9, B: 8, C: 7, D: 6},
		api.Event{Kind: 1, N: 3, V: 0x88},
		api.Event{Kind: 3, N: 0x21, V: 0x99aa, A: 0x4d4c, B: 8, C: 7, D: 6},
		api.Event{Kind: 1, N: 4},
		api.Event{Kind: 3, N: 0x22, A: 0x4c00, B: 8, C: 7, D: 6},
	)
}

func TestOut(t *testing.T) {
	for _, l := range lists() {
		w := New(l)
		var want []api.Event
		for _, port := range []uint16{0, 1, 5, 0xff, 0x100, 0x8000, 0xffff} {
			for _, v := range []uint16{0, 1, 0x7f, 0x80, 0xff, 0x100, 0x1234, 0x8000, 0xffff} {
				w.Out(port, v)
				want = append(want, api.Event{Kind: 2, N: port, V: v})
			}
		}
		wantEvents(t, w, want...)
		if w.Used() != 0 {
			t.Errorf("Out used %d replies of %x", w.Used(), l)
		}
	}
}

func TestStop(t *testing.T) {
	for _, l := range lists() {
		w := New(l)
		var want []api.Event
		for _, kind := range stops() {
			w.Stop(kind)
			want = append(want, api.Event{Kind: kind})
			wantEvents(t, w, want...)
			if w.Used() != 0 {
				t.Errorf("Stop used %d replies of %x", w.Used(), l)
			}
		}
	}
	w := New([]uint16{8})
	w.Stop(api.EvHalt)
	w.Stop(api.EvFault)
	w.Stop(api.EvBad)
	wantEvents(t, w, api.Event{Kind: 4}, api.Event{Kind: 5}, api.Event{Kind: 6})
	if v := w.In(1, true); v != 8 {
		t.Errorf("behind stops, the first reply is %d", v)
	}
}

// wantEnds tells whether Int n with that AX ends a program.
func wantEnds(n, a int) bool {
	return n == 32 || n == 33 && a >= 0x4c00 && a <= 0x4cff
}

// checkInt checks one Int of a world of two replies, what it notes, and what is used by it.
func checkInt(t *testing.T, n byte, a uint16) {
	t.Helper()
	w := New([]uint16{0xa1b2, 0xc3d4})
	v, end := w.Int(n, a, 0x0203, 0x0405, 0x0607)
	want, used := uint16(0xa1b2), 1
	if wantEnds(int(n), int(a)) {
		want, used = a, 0
	}
	if v != want || end != wantEnds(int(n), int(a)) {
		t.Fatalf("Int %#x with %#x: %#x, %v", n, a, v, end)
	}
	if w.Used() != used {
		t.Fatalf("Int %#x with %#x used %d", n, a, w.Used())
	}
	wantEvents(t, w, api.Event{Kind: 3, N: uint16(n), V: want, A: a, B: 0x0203, C: 0x0405, D: 0x0607})
	if next := w.In(1, true); next != behind([]uint16{0xa1b2, 0xc3d4}, used) {
		t.Fatalf("behind Int %#x with %#x, the next reply is %#x", n, a, next)
	}
}

func TestIntOfAllNumbers(t *testing.T) {
	words := []uint16{
		0, 1, 0x4b, 0x4c, 0x4d, 0xff, 0x004c, 0x014c, 0x0c4c, 0x404c, 0x4b00, 0x4b4c, 0x4bff,
		0x4c00, 0x4c01, 0x4c4c, 0x4c7f, 0x4c80, 0x4cff, 0x4d00, 0x4d4c, 0x4e4c, 0x484c, 0x5c00, 0x6c00, 0xcc00, 0xffff,
	}
	for n := range 256 {
		for _, a := range words {
			checkInt(t, byte(n), a)
		}
	}
}

func TestIntWithEveryA(t *testing.T) {
	for _, n := range []byte{api.IntEnd - 1, api.IntEnd, api.IntDos, api.IntDos + 1, 0} {
		for a := range 1 << 16 {
			checkInt(t, n, uint16(a))
		}
	}
}

// The other registers are noted, each in its part, and play no part in whether it ends.
func TestIntNotesEachRegister(t *testing.T) {
	d := drawer(1122)
	for range 2000 {
		n, a, b, c, x := byte(0x1f+d.below(4)), d.word(), d.word(), d.word(), d.word()
		if d.below(2) == 0 {
			a = 0x4c00 + a&0xff
		}
		w := New([]uint16{0x7654})
		v, end := w.Int(n, a, b, c, x)
		if end != wantEnds(int(n), int(a)) {
			t.Fatalf("Int %#x of %#x, %#x, %#x, %#x: %v", n, a, b, c, x, end)
		}
		want := uint16(0x7654)
		if end {
			want = a
		}
		if v != want {
			t.Fatalf("Int %#x of %#x, %#x, %#x, %#x: %#x", n, a, b, c, x, v)
		}
		wantEvents(t, w, api.Event{Kind: 3, N: uint16(n), V: want, A: a, B: b, C: c, D: x})
	}
	for _, l := range [][4]uint16{{0, 0x4c00, 0x4c00, 0x4c00}, {0x4b00, 0x4c4c, 0x2021, 0x4c20}, {0x2120, 0x2020, 0x2021, 0x4c21}} {
		if _, end := New(nil).Int(api.IntDos, l[0], l[1], l[2], l[3]); end {
			t.Errorf("IntDos with %x ends", l)
		}
	}
}

func TestExample(t *testing.T) {
	w := New([]uint16{5})
	v, end := w.Int(33, 0x4c00, 1, 2, 3)
	if v != 0x4c00 || !end || w.Used() != 0 {
		t.Errorf("%#x, %v, %d used", v, end, w.Used())
	}
	wantEvents(t, w, api.Event{Kind: api.EvInt, N: 33, V: 0x4c00, A: 0x4c00, B: 1, C: 2, D: 3})
}

// The world goes on behind a program's end, and behind a stop: only a machine knows that it runs no more.
func TestBehindTheEnd(t *testing.T) {
	w := New([]uint16{11, 12, 13})
	w.Int(api.IntEnd, 1, 2, 3, 4)
	w.Int(api.IntEnd, 5, 6, 7, 8)
	w.Stop(api.EvHalt)
	if v := w.In(9, true); v != 11 {
		t.Errorf("the first reply is %d", v)
	}
	w.Int(api.IntDos, 0x4cfe, 0, 0, 1)
	w.Out(3, 4)
	if v, end := w.Int(api.IntDos, 0x0102, 0, 0, 1); v != 12 || end {
		t.Errorf("the second reply is %d, %v", v, end)
	}
	if w.Used() != 2 {
		t.Errorf("%d used", w.Used())
	}
	wantEvents(t, w,
		api.Event{Kind: 3, N: 0x20, V: 1, A: 1, B: 2, C: 3, D: 4},
		api.Event{Kind: 3, N: 0x20, V: 5, A: 5, B: 6, C: 7, D: 8},
		api.Event{Kind: 4},
		api.Event{Kind: 1, N: 9, V: 11},
		api.Event{Kind: 3, N: 0x21, V: 0x4cfe, A: 0x4cfe, D: 1},
		api.Event{Kind: 2, N: 3, V: 4},
		api.Event{Kind: 3, N: 0x21, V: 12, A: 0x0102, D: 1},
	)
}

// model is what a world should have noted and used, reckoned beside it.
type model struct {
	replies []uint16
	asked   int
	all     []api.Event
}

// next is the next reply.
func (m *model) next() uint16 {
	m.asked++
	return behind(m.replies, m.asked-1)
}

// told is what of all that happened may be told.
func (m *model) told() []api.Event { return m.all[:min(len(m.all), 4000)] }

// step does one drawn call, to the world and to the model.
func step(t *testing.T, d *drawer, w *World, m *model) {
	t.Helper()
	a, b, c, x := d.word(), d.word(), d.word(), d.word()
	switch d.below(6) {
	case 0:
		v := m.next()
		if got := w.In(a, true); got != v {
			t.Fatalf("In: %#x, want %#x", got, v)
		}
		m.all = append(m.all, api.Event{Kind: 1, N: a, V: v})
	case 1:
		v := m.next() % 256
		if got := w.In(a, false); got != v {
			t.Fatalf("In of a byte: %#x, want %#x", got, v)
		}
		m.all = append(m.all, api.Event{Kind: 1, N: a, V: v})
	case 2:
		w.Out(a, b)
		m.all = append(m.all, api.Event{Kind: 2, N: a, V: b})
	case 3:
		v := m.next()
		if got, end := w.Int(0x1f, a, b, c, x); got != v || end {
			t.Fatalf("Int: %#x, %v, want %#x", got, end, v)
		}
		m.all = append(m.all, api.Event{Kind: 3, N: 0x1f, V: v, A: a, B: b, C: c, D: x})
	case 4:
		if got, end := w.Int(0x20, a, b, c, x); got != a || !end {
			t.Fatalf("Int that ends: %#x, %v", got, end)
		}
		m.all = append(m.all, api.Event{Kind: 3, N: 0x20, V: a, A: a, B: b, C: c, D: x})
	case 5:
		w.Stop(4 + int(a%3))
		m.all = append(m.all, api.Event{Kind: 4 + int(a%3)})
	}
}

func TestCallsOfAllKindsMixed(t *testing.T) {
	for seed := range uint32(60) {
		d := drawer(seed)
		m := &model{replies: drawnWords(d.below(90))}
		w := New(m.replies)
		for range 150 {
			step(t, &d, w, m)
			if w.Used() != asked(m.replies, m.asked) {
				t.Fatalf("%d used, want %d", w.Used(), asked(m.replies, m.asked))
			}
			if got := w.Events(); !slices.Equal(got, m.told()) {
				t.Fatalf("events are %+v, want %+v", got, m.told())
			}
		}
	}
}

// Replies still come, and are still used, when there is no more room to note them.
func TestMoreThanMostEvents(t *testing.T) {
	d := drawer(5)
	m := &model{replies: drawnWords(4000)}
	w := New(m.replies)
	for n := 1; n <= 9000; n++ {
		step(t, &d, w, m)
		if w.Used() != asked(m.replies, m.asked) {
			t.Fatalf("behind %d calls %d are used, want %d", n, w.Used(), asked(m.replies, m.asked))
		}
		if n%500 == 0 || n > 3990 && n < 4010 {
			if got := w.Events(); !slices.Equal(got, m.told()) || len(got) != min(n, 4000) {
				t.Fatalf("behind %d calls there are %d events", n, len(got))
			}
		}
	}
	if m.asked <= 4000 {
		t.Fatal("too few were asked for")
	}
}

// filled is a world that has noted so many events, all alike.
func filled(many int, replies []uint16) *World {
	w := New(replies)
	for range many {
		w.Out(1, 2)
	}
	return w
}

// callsOfEachKind do one thing to a world.
func callsOfEachKind() []func(w *World) {
	return []func(w *World){
		func(w *World) { w.In(7, true) },
		func(w *World) { w.In(7, false) },
		func(w *World) { w.Out(7, 8) },
		func(w *World) { w.Int(1, 7, 8, 9, 10) },
		func(w *World) { w.Int(api.IntEnd, 7, 8, 9, 10) },
		func(w *World) { w.Int(api.IntDos, 0x4c07, 8, 9, 10) },
		func(w *World) { w.Stop(api.EvHalt) },
	}
}

func TestTheLastEventThatHasRoom(t *testing.T) {
	for i, call := range callsOfEachKind() {
		w := filled(api.MostEvents-1, []uint16{3, 4, 5})
		call(w)
		events := w.Events()
		if len(events) != 4000 || events[3999] == (api.Event{Kind: 2, N: 1, V: 2}) {
			t.Errorf("call %d: %d events", i, len(events))
		}
		call(w)
		if !slices.Equal(w.Events(), events) {
			t.Errorf("call %d: an event beyond is noted", i)
		}
	}
}

func TestAnswersBehindMostEvents(t *testing.T) {
	w := filled(api.MostEvents, []uint16{0x1203, 0x1304, 0x1405})
	before := w.Events()
	if v := w.In(1, true); v != 0x1203 || w.Used() != 1 {
		t.Errorf("%#x, %d used", v, w.Used())
	}
	if v := w.In(1, false); v != 0x04 || w.Used() != 2 {
		t.Errorf("%#x, %d used", v, w.Used())
	}
	if v, end := w.Int(api.IntEnd, 9, 0, 0, 0); v != 9 || !end || w.Used() != 2 {
		t.Errorf("%#x, %v, %d used", v, end, w.Used())
	}
	if v, end := w.Int(api.IntDos, 9, 0, 0, 0); v != 0x1405 || end || w.Used() != 3 {
		t.Errorf("%#x, %v, %d used", v, end, w.Used())
	}
	w.Out(9, 9)
	w.Stop(api.EvBad)
	if v := w.In(1, true); v != 0 || w.Used() != 3 {
		t.Errorf("%#x, %d used", v, w.Used())
	}
	if !slices.Equal(w.Events(), before) || len(before) != 4000 {
		t.Errorf("there are %d events", len(w.Events()))
	}
}

func TestOfNone(t *testing.T) {
	var w *World
	for _, port := range []uint16{0, 1, 0x21, 0xffff} {
		if v := w.In(port, true); v != 0 {
			t.Errorf("In: %#x", v)
		}
		if v := w.In(port, false); v != 0 {
			t.Errorf("In of a byte: %#x", v)
		}
		w.Out(port, port)
	}
	for n := range 256 {
		for _, a := range []uint16{0, 1, 0x00ff, 0x4c00, 0x4c4c, 0x1234, 0xffff} {
			if v, end := w.Int(byte(n), a, 2, 3, 4); v != a || !end {
				t.Errorf("Int %#x with %#x: %#x, %v", n, a, v, end)
			}
		}
	}
	for _, kind := range stops() {
		w.Stop(kind)
	}
	if l := w.Events(); len(l) != 0 {
		t.Errorf("Events: %+v", l)
	}
	if n := w.Used(); n != 0 {
		t.Errorf("Used: %d", n)
	}
}

// New of no replies is a world, not none: an Int that doesn't end is answered 0.
func TestNewOfNoReplies(t *testing.T) {
	for _, l := range [][]uint16{nil, {}} {
		w := New(l)
		if w == nil {
			t.Fatal("there is none")
		}
		if v, end := w.Int(0x21, 7, 0, 0, 0); v != 0 || end || len(w.Events()) != 1 {
			t.Errorf("%#x, %v, %+v", v, end, w.Events())
		}
	}
}

// callAll does some of everything to a world.
func callAll(w *World) {
	for _, call := range callsOfEachKind() {
		call(w)
	}
}

func TestRepliesThatAreHandedInAreNotChanged(t *testing.T) {
	for _, l := range lists() {
		// Room behind what is handed in is the caller's as well.
		room := append(slices.Clone(l), 0x5151, 0x5252, 0x5353)
		before := slices.Clone(room)
		w := New(room[:len(l)])
		for range 20 {
			callAll(w)
		}
		if !slices.Equal(room, before) {
			t.Errorf("of %x came %x", before, room)
		}
		if w.Used() != asked(l, 60) {
			t.Errorf("of %x %d are used", l, w.Used())
		}
	}
}

func TestRepliesMayBeChangedLater(t *testing.T) {
	for _, l := range lists() {
		mine := slices.Clone(l)
		w := New(mine)
		for i := range len(l) + 2 {
			for j := range mine {
				mine[j] = 0xeeee
			}
			if v := w.In(1, true); v != behind(l, i) {
				t.Fatalf("of %x, reply %d is %#x", l, i, v)
			}
		}
	}
}

func TestWhatEventsToldIsTheCallers(t *testing.T) {
	w := New(drawnWords(10))
	var told, copies [][]api.Event
	for range 12 {
		for _, call := range callsOfEachKind() {
			call(w)
			l := w.Events()
			told, copies = append(told, l), append(copies, slices.Clone(l))
		}
	}
	for i := range told {
		if !slices.Equal(told[i], copies[i]) {
			t.Fatalf("what was told behind %d calls is changed by later ones", i+1)
		}
	}
	before := w.Events()
	for _, l := range told {
		for j := range l {
			l[j] = api.Event{Kind: 99, N: 99, V: 99}
		}
		_ = append(l, api.Event{Kind: 98})
		_ = append(l[:0], api.Event{Kind: 97})
	}
	if !slices.Equal(w.Events(), before) || len(before) != len(told) {
		t.Error("who writes into what he was told changes the world")
	}
	// And no list that was told shares memory with another one.
	first, second := w.Events(), w.Events()
	first[0].V++
	if first[0] == second[0] || first[0] == w.Events()[0] {
		t.Error("two lists that were told are one")
	}
	// Room behind a list is not the next one's.
	_ = append(second, api.Event{Kind: 96})
	w.Out(5, 6)
	if l := w.Events(); l[len(l)-1] != (api.Event{Kind: 2, N: 5, V: 6}) {
		t.Errorf("the last event is %+v", l[len(l)-1])
	}
}

func TestWorldsAreApart(t *testing.T) {
	l := []uint16{1, 2, 3, 4}
	a, b := New(l), New(l)
	a.In(1, true)
	a.In(1, true)
	if b.Used() != 0 || len(b.Events()) != 0 {
		t.Errorf("%d used, %+v", b.Used(), b.Events())
	}
	if v := b.In(2, true); v != 1 || a.Used() != 2 || len(a.Events()) != 2 {
		t.Errorf("%d; %d used, %+v", v, a.Used(), a.Events())
	}
}

// Who asks is told the same again, and no reply is used by it.
func TestAskingChangesNothing(t *testing.T) {
	w := New([]uint16{1, 2})
	w.In(1, true)
	for range 3 {
		if w.Used() != 1 || len(w.Events()) != 1 {
			t.Fatalf("%d used, %+v", w.Used(), w.Events())
		}
	}
	if v := w.In(1, true); v != 2 {
		t.Errorf("the second reply is %d", v)
	}
}

// changed are events that differ from one in one part, each in another one.
func changed(e api.Event) []api.Event {
	l := slices.Repeat([]api.Event{e}, 8)
	l[0].Kind++
	l[1].Kind += 1 << 32
	l[2].N ^= 0x8000
	l[3].V ^= 1
	l[4].A ^= 0x0100
	l[5].B ^= 0x0080
	l[6].C ^= 0x4000
	l[7].D ^= 0x0010
	return l
}

// drawnEvents are so many events that are drawn by a rule.
func drawnEvents(many int) []api.Event {
	d := drawer(uint32(many))
	var l []api.Event
	for range many {
		l = append(l, api.Event{Kind: d.below(7), N: d.word(), V: d.word(), A: d.word(), B: d.word(), C: d.word(), D: d.word()})
	}
	return l
}

func wantApart(t *testing.T, a, b []api.Event, want int) {
	t.Helper()
	for _, p := range [][2][]api.Event{{a, b}, {b, a}} {
		if at := Apart(p[0], p[1]); at != want {
			t.Errorf("Apart of %+v and %+v is %d, want %d", p[0], p[1], at, want)
		}
		if same := Same(p[0], p[1]); same != (want == -1) {
			t.Errorf("Same of %+v and %+v is %v", p[0], p[1], same)
		}
	}
}

func TestListsThatAreAlike(t *testing.T) {
	empties := [][]api.Event{nil, {}, make([]api.Event, 0, 3)}
	for _, a := range empties {
		for _, b := range empties {
			wantApart(t, a, b, -1)
		}
	}
	for many := range 12 {
		l := drawnEvents(many)
		wantApart(t, l, l, -1)
		wantApart(t, l, slices.Clone(l), -1)
	}
	wantApart(t, make([]api.Event, 5), make([]api.Event, 5), -1)
	wantApart(t, drawnEvents(5000), drawnEvents(5000), -1)
}

func TestListsThatDifferInOnePart(t *testing.T) {
	for _, many := range []int{1, 2, 3, 9} {
		l := drawnEvents(many)
		for at := range many {
			for _, e := range changed(l[at]) {
				other := slices.Clone(l)
				other[at] = e
				wantApart(t, l, other, at)
				wantApart(t, l, other[:at+1], at)
				// The first place counts, whatever is behind it.
				for behind := at + 1; behind < many; behind++ {
					other[behind] = api.Event{Kind: 50 + behind}
					wantApart(t, l, other, at)
				}
				wantApart(t, append(slices.Clone(l), l...), other, at)
			}
		}
	}
}

func TestListsOfWhichOneBeginsTheOther(t *testing.T) {
	for many := 1; many <= 9; many++ {
		l := drawnEvents(many)
		for n := range many {
			wantApart(t, l, l[:n], n)
			wantApart(t, slices.Clone(l[:n]), l, n)
		}
		wantApart(t, l, nil, 0)
		wantApart(t, l, []api.Event{}, 0)
	}
	// An event of noughts is one, too.
	wantApart(t, nil, make([]api.Event, 1), 0)
	wantApart(t, make([]api.Event, 3), make([]api.Event, 7), 3)
}

func TestSameChangesNothing(t *testing.T) {
	a, b := drawnEvents(6), drawnEvents(6)
	b[3].D++
	keepA, keepB := slices.Clone(a), slices.Clone(b)
	Same(a, b)
	Apart(a, b)
	if !slices.Equal(a, keepA) || !slices.Equal(b, keepB) {
		t.Error("a list is changed")
	}
}

// Two worlds that were asked the same are alike; another port is an event that differs.
func TestSameOfWorlds(t *testing.T) {
	a, b := New([]uint16{1, 2, 3}), New([]uint16{1, 2, 3})
	callAll(a)
	callAll(b)
	wantApart(t, a.Events(), b.Events(), -1)
	at := len(a.Events())
	a.In(1, true)
	wantApart(t, a.Events(), b.Events(), at)
	b.In(2, true)
	wantApart(t, a.Events(), b.Events(), at)
}
