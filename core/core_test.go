package core

import (
	"math"
	"slices"
	"testing"

	"hansom/api"
	"hansom/mem"
	"hansom/world"
)

// drawer draws words by a rule.
type drawer uint32

func (d *drawer) word() uint16 {
	*d = *d*1664525 + 1013904223
	return uint16(*d >> 16)
}

// below is a drawn number below another one.
func (d *drawer) below(n int) int { return int(d.word()) % n }

// val is a drawn word; one of four is a paragraph.
func (d *drawer) val() api.Val { return api.Val{V: d.word(), T: d.below(4) == 0} }

func number(v uint16) api.Val    { return api.Val{V: v} }
func paragraph(v uint16) api.Val { return api.Val{V: v, T: true} }

// at is a place whose segment counts from where the program is loaded.
func at(seg, off uint16) api.Place { return api.Place{Seg: paragraph(seg), Off: off} }

// fresh is a machine with a memory and a world of its own, whose program is 2^16 bytes from paragraph 1000 (hex) on.
func fresh() *Machine { return New(mem.New(), world.New(nil), 0x1000, 0x10000) }

// again is such a machine with a memory that there is already, so that it needn't be made.
func again(memory *mem.Memory) *Machine { return New(memory, world.New(nil), 0x1000, 0x10000) }

func wantState(t *testing.T, m *Machine, want int) {
	t.Helper()
	if got := m.State(); got != want {
		t.Fatalf("the state is %d, want %d", got, want)
	}
}

// wantWord holds a memory's word against another one, byte by byte.
func wantWord(t *testing.T, m *mem.Memory, seg, off uint16, v api.Val, whole bool) {
	t.Helper()
	if got, is := m.Word(seg, off); got != v || is != whole {
		t.Fatalf("at %04x:%04x is %v, %v, want %v, %v", seg, off, got, is, v, whole)
	}
}

func TestNew(t *testing.T) {
	sizes := []struct{ told, want int }{
		{math.MinInt, 0}, {math.MinInt32, 0}, {-1 << 20, 0}, {-2, 0}, {-1, 0}, {0, 0}, {1, 1}, {2, 2}, {15, 15}, {16, 16},
		{0xffff, 0xffff}, {1 << 16, 1 << 16}, {1<<20 - 1, 1<<20 - 1}, {1 << 20, 1 << 20}, {1<<20 + 1, 1 << 20},
		{1 << 21, 1 << 20}, {1 << 32, 1 << 20}, {1<<32 + 1, 1 << 20}, {math.MaxInt, 1 << 20},
	}
	memory, w := mem.New(), world.New(nil)
	for _, size := range sizes {
		for _, para := range []uint16{0, 1, 0x10, 0x1000, 0x8000, 0xfffe, 0xffff} {
			m := New(memory, w, para, size.told)
			if m.Base() != uint32(para)*16 || m.Size() != size.want || m.State() != api.Runs {
				t.Errorf("of %#x and %d: %#x, %d, %d", para, size.told, m.Base(), m.Size(), m.State())
			}
			if m.R != (api.Regs{}) || m.M != memory || m.W != w {
				t.Errorf("of %#x and %d: registers, memory and world are others", para, size.told)
			}
		}
	}
}

func TestRegistersMemoryAndWorldAreOpen(t *testing.T) {
	m := fresh()
	other, w := mem.New(), world.New(nil)
	other.SetWord(0x1000, 4, number(0x1234))
	m.M, m.W = other, w
	m.R.G[api.BX] = number(4)
	m.R.S[api.DS] = paragraph(0x1000)
	if v := m.Get(api.Inst{RM: 7}, api.OpEv, api.Val{}); v != number(0x1234) {
		t.Errorf("of the other memory: %v", v)
	}
	m.End(api.EvHalt)
	if !slices.Equal(w.Events(), []api.Event{{Kind: api.EvHalt}}) {
		t.Errorf("of the other world: %v", w.Events())
	}
}

func TestOfNone(t *testing.T) {
	var m *Machine
	if m.State() != api.Ended || m.Base() != 0 || m.Size() != 0 {
		t.Errorf("of none: %d, %d, %d", m.State(), m.Base(), m.Size())
	}
}

// standing are machines that run, that ended, and that are stuck.
func standing() map[int]*Machine {
	l := map[int]*Machine{api.Runs: fresh(), api.Ended: fresh(), api.Stuck: fresh()}
	l[api.Ended].End(0)
	l[api.Stuck].Stuck()
	return l
}

func TestEnd(t *testing.T) {
	kinds := []int{
		0, api.EvIn, api.EvOut, api.EvInt, api.EvHalt, api.EvFault, api.EvBad, 7, 1000, 1 << 16, 1 << 32, math.MaxInt,
		-1, -4, math.MinInt32, math.MinInt,
	}
	for _, kind := range kinds {
		for state, m := range standing() {
			wantState(t, m, state)
			m.End(kind)
			var want []api.Event
			if state == api.Runs {
				state = api.Ended
				if kind > 0 {
					want = []api.Event{{Kind: kind}}
				}
			}
			wantState(t, m, state)
			if got := m.W.Events(); !slices.Equal(got, want) {
				t.Errorf("End(%d) of %d notes %v", kind, state, got)
			}
			// What ended does not end again.
			m.End(api.EvHalt)
			wantState(t, m, state)
			if got := m.W.Events(); !slices.Equal(got, want) {
				t.Errorf("End(%d) of %d, and another one, note %v", kind, state, got)
			}
		}
	}
}

func TestStuck(t *testing.T) {
	for _, m := range standing() {
		m.Stuck()
		wantState(t, m, api.Stuck)
		m.Stuck()
		m.End(0)
		m.End(api.EvHalt)
		wantState(t, m, api.Stuck)
		if got := m.W.Events(); len(got) != 0 {
			t.Errorf("stuck, it notes %v", got)
		}
	}
}

func TestWhatWasNotedStays(t *testing.T) {
	m := fresh()
	m.W.Out(5, 7)
	m.End(api.EvFault)
	m.Stuck()
	want := []api.Event{{Kind: api.EvOut, N: 5, V: 7}, {Kind: api.EvFault}}
	if got := m.W.Events(); !slices.Equal(got, want) {
		t.Errorf("noted is %v", got)
	}
}

func TestEndWithoutWorld(t *testing.T) {
	m := New(mem.New(), nil, 0x1000, 16)
	m.End(api.EvHalt)
	wantState(t, m, api.Ended)
}

// program tells of each byte of the memory whether it is the program's, paragraph and size told.
func program(para uint16, size int) []bool {
	l := make([]bool, 1<<20)
	for k := range size {
		l[(int(para)*16+k)%len(l)] = true
	}
	return l
}

// owned reckons what Own tells, byte by byte.
func owned(l []bool, p api.Place, n int) bool {
	for k := 0; k < n && k <= 1<<16; k++ {
		off := (int(p.Off) + k) % (1 << 16)
		if !p.Seg.T || !l[(int(p.Seg.V)*16+off)%len(l)] {
			return false
		}
	}
	return true
}

func TestOwn(t *testing.T) {
	programs := []struct {
		para uint16
		size int
	}{
		{0x1000, 0}, {0x1000, 1}, {0x1000, 2}, {0x1000, 0x25}, {0x1000, 0x10000}, {0x1000, 0x20000}, {0, 1}, {0, 0x10000},
		{0, 1 << 20}, {0xfff0, 0x200}, {0xfff0, 0x100}, {0xffff, 16}, {0xffff, 17}, {0xffff, 15}, {0xf000, 1<<20 - 1},
		{0x8000, 1<<20 - 1}, {0x1234, 1 << 20},
	}
	memory := mem.New()
	counts := []int{math.MinInt, -65536, -1, 0, 1, 2, 3, 17, 65535, 65536, 65537, 1 << 20, 1 << 32, 1<<32 + 1, math.MaxInt}
	d := drawer(4711)
	for _, g := range programs {
		m := New(memory, nil, g.para, g.size)
		l := program(g.para, g.size)
		for _, p := range placesAround(g.para, g.size, &d) {
			for _, n := range counts {
				if got, want := m.Own(p, n), owned(l, p, n); got != want {
					t.Fatalf("of %x and %x: Own(%v, %d) is %v", g.para, g.size, p, n, got)
				}
			}
		}
		wantState(t, m, api.Runs)
	}
}

// placesAround are places at a program's first and last byte and beside both, told in several ways, and drawn ones; each with a paragraph and with a number.
func placesAround(para uint16, size int, d *drawer) []api.Place {
	base := int(para) * 16
	var l []api.Place
	add := func(seg, off uint16) {
		l = append(l, at(seg, off), api.Place{Seg: number(seg), Off: off})
	}
	for _, byteAt := range []int{base, base + size} {
		for by := -3; by <= 2; by++ {
			there := (byteAt + by + 1<<20) % (1 << 20)
			add(uint16(there/16), uint16(there%16))
			// The same byte with greater offsets.
			for _, off := range []int{0x100, 0xfff0, 0xff00} {
				seg := (there/16 - off/16 + 1<<16) % (1 << 16)
				add(uint16(seg), uint16(off+there%16))
			}
		}
	}
	for _, off := range []uint16{0, 1, 0x7fff, 0xfffd, 0xfffe, 0xffff} {
		add(para, off)
		add(para+1, off)
		add(para-1, off)
	}
	for range 20 {
		add(d.word(), d.word())
	}
	return l
}

func TestOwnAtTheEdges(t *testing.T) {
	m := New(mem.New(), nil, 0xfff0, 0x110)
	cases := []struct {
		p    api.Place
		n    int
		want bool
	}{
		{at(0xfff0, 0), 1, true}, {at(0xfff0, 0), 3, true}, {at(0xffef, 15), 1, false}, {at(0xffef, 15), 2, false},
		{at(0xfff0, 0xff), 1, true}, {at(0xfff0, 0xff), 3, true}, {at(0xfff0, 0x10f), 1, true}, {at(0xfff0, 0x10f), 2, false},
		{at(0, 0), 1, true}, {at(0, 15), 1, true}, {at(0, 16), 1, false}, {at(0, 14), 3, false}, {at(0, 13), 3, true},
		{at(0xffff, 15), 2, true}, {api.Place{Seg: number(0xfff0)}, 1, false}, {api.Place{Seg: number(0xfff0)}, 0, true},
		{at(0, 0xffff), 1, false}, {at(0, 0xffff), 2, false}, {at(0x5000, 5), 0, true}, {at(0x5000, 5), -1, true},
		// Offsets come round within the segment: the next byte is 2^16 below, not behind.
		{at(0xf000, 0xffff), 1, true}, {at(0xf000, 0xffff), 2, false}, {at(0xf001, 0xffff), 1, true},
	}
	for _, c := range cases {
		if got := m.Own(c.p, c.n); got != c.want {
			t.Errorf("Own(%v, %d) is %v", c.p, c.n, got)
		}
	}
}

// marked is a memory whose segment 1000 (hex) has, from offset 10 (hex) on, two plain bytes, a paragraph's word, and plain bytes.
func marked() *mem.Memory {
	memory := mem.New()
	memory.Load(0x10010, []byte{0x11, 0x22, 0, 0, 0x55, 0x66})
	memory.SetWord(0x1000, 0x12, paragraph(0x4433))
	return memory
}

func TestByte(t *testing.T) {
	cases := []struct {
		p    api.Place
		want uint16
		ok   bool
	}{
		{at(0x1000, 0x10), 0x11, true}, {at(0x1000, 0x11), 0x22, true}, {at(0x1001, 1), 0x22, true}, {at(0x0fff, 0x21), 0x22, true},
		{at(0x1000, 0x12), 0x33, false}, {at(0x1000, 0x13), 0x44, false}, {at(0x1000, 0x14), 0x55, true},
		{api.Place{Seg: number(0x1000), Off: 0x10}, 0x11, false}, {api.Place{Seg: number(0x1000), Off: 0x12}, 0x33, false},
		{at(0x1000, 0), 0, true}, {at(0x0fff, 15), 0, false}, {at(0x1fff, 15), 0, true}, {at(0x2000, 0), 0, false},
		{at(0x1000, 0xffff), 0, true}, {at(0x1001, 0xffff), 0, false}, {at(0, 0), 0, false},
	}
	memory := marked()
	for _, c := range cases {
		m := again(memory)
		if got := m.Byte(c.p); got != c.want {
			t.Errorf("at %v is %x", c.p, got)
		}
		if (m.State() == api.Runs) != c.ok {
			t.Errorf("at %v the state is %d", c.p, m.State())
		}
	}
}

func TestWord(t *testing.T) {
	cases := []struct {
		p    api.Place
		want api.Val
		ok   bool
	}{
		{at(0x1000, 0x10), number(0x2211), true}, {at(0x1001, 0), number(0x2211), true}, {at(0x1000, 0x12), paragraph(0x4433), true},
		{at(0x1000, 0x14), number(0x6655), true}, {at(0x1000, 0x11), number(0x3322), false}, {at(0x1000, 0x13), number(0x5544), false},
		{api.Place{Seg: number(0x1000), Off: 0x10}, number(0x2211), false}, {api.Place{Seg: number(0x1000), Off: 0x12}, paragraph(0x4433), false},
		{at(0x1000, 0xffff), number(0), true}, {at(0x0fff, 0xf), number(0), false}, {at(0x1fff, 0xe), number(0), true},
		{at(0x1fff, 0xf), number(0), false}, {at(0x2000, 0), number(0), false}, {at(0x0fff, 0xe), number(0), false},
	}
	memory := marked()
	for _, c := range cases {
		m := again(memory)
		if got := m.Word(c.p); got != c.want {
			t.Errorf("at %v is %v", c.p, got)
		}
		if (m.State() == api.Runs) != c.ok {
			t.Errorf("at %v the state is %d", c.p, m.State())
		}
	}
}

func TestWordOfOtherHalves(t *testing.T) {
	m := fresh()
	m.M.SetWord(0x1000, 0x10, paragraph(0x1111))
	m.M.SetWord(0x1000, 0x12, paragraph(0x2222))
	m.Word(at(0x1000, 0x11))
	wantState(t, m, api.Stuck)
}

func TestWordWhoseOffsetComesRound(t *testing.T) {
	m := fresh()
	m.M.Set(0x1ffff, 0xcd)
	m.M.Set(0x10000, 0xab)
	if v := m.Word(at(0x1000, 0xffff)); v != number(0xabcd) {
		t.Errorf("the word is %v", v)
	}
	wantState(t, m, api.Runs)
	// A paragraph's word that stands there may be read.
	m.M.SetWord(0x1000, 0xffff, paragraph(0x7788))
	if v := m.Word(at(0x1000, 0xffff)); v != paragraph(0x7788) {
		t.Errorf("the paragraph is %v", v)
	}
	wantState(t, m, api.Runs)
}

// kept is all bytes of a memory, and what they are of, as its words tell it.
func kept(memory *mem.Memory) []byte { return memory.Bytes(0, 1<<20) }

func TestSetByte(t *testing.T) {
	cases := []struct {
		p  api.Place
		ok bool
	}{
		{at(0x1000, 0x10), true}, {at(0x1000, 0x11), true}, {at(0x1001, 4), true}, {at(0x1000, 0), true}, {at(0x1000, 0xffff), true},
		{at(0x1fff, 15), true}, {at(0x1000, 0x12), false}, {at(0x1000, 0x13), false}, {at(0x1001, 2), false},
		{api.Place{Seg: number(0x1000), Off: 0x10}, false}, {at(0x0fff, 15), false}, {at(0x2000, 0), false}, {at(0, 0), false},
		{at(0x1001, 0xffff), false},
	}
	for _, c := range cases {
		memory := marked()
		before := kept(memory)
		m := again(memory)
		m.SetByte(c.p, 0x9a)
		if (m.State() == api.Runs) != c.ok {
			t.Errorf("at %v the state is %d", c.p, m.State())
		}
		if c.ok {
			where := (int(c.p.Seg.V)*16 + int(c.p.Off)) % (1 << 20)
			before[where] = 0x9a
			if !memory.Plain(uint32(where)) {
				t.Errorf("at %v is no plain byte", c.p)
			}
		}
		if !slices.Equal(kept(memory), before) {
			t.Errorf("at %v other bytes are written", c.p)
		}
		wantWord(t, memory, 0x1000, 0x12, paragraph(0x4433), true)
	}
}

func TestSetWord(t *testing.T) {
	cases := []struct {
		p  api.Place
		v  api.Val
		ok bool
	}{
		{at(0x1000, 0x10), number(0x789a), true}, {at(0x1000, 0x10), paragraph(0x789a), true}, {at(0x1001, 0), paragraph(0x789a), true},
		{at(0x1000, 0x12), number(0x789a), true}, {at(0x1000, 0x12), paragraph(0x789a), true}, {at(0x1001, 2), number(0x789a), true},
		{at(0x1000, 0x11), number(0x789a), false}, {at(0x1000, 0x13), number(0x789a), false}, {at(0x1000, 0x11), paragraph(0x789a), false},
		{at(0x1000, 0x13), paragraph(0x789a), false}, {at(0x1000, 0xffff), number(0x789a), true}, {at(0x1000, 0xffff), paragraph(0x789a), false},
		{at(0x1000, 0xfffe), paragraph(0x789a), true}, {at(0x1000, 0), paragraph(0x789a), true}, {at(0x1fff, 14), paragraph(0x789a), true},
		{at(0x1fff, 15), number(0x789a), false}, {at(0x0fff, 15), number(0x789a), false}, {at(0x0fff, 14), number(0x789a), false},
		{at(0x2000, 0), number(0x789a), false}, {api.Place{Seg: number(0x1000), Off: 0x10}, number(0x789a), false},
		{api.Place{Seg: number(0x1000), Off: 0x12}, paragraph(0x789a), false},
	}
	for _, c := range cases {
		memory := marked()
		before := kept(memory)
		m := again(memory)
		m.SetWord(c.p, c.v)
		if (m.State() == api.Runs) != c.ok {
			t.Errorf("%v at %v: the state is %d", c.v, c.p, m.State())
		}
		if c.ok {
			before[(int(c.p.Seg.V)*16+int(c.p.Off))%(1<<20)] = 0x9a
			before[(int(c.p.Seg.V)*16+(int(c.p.Off)+1)%(1<<16))%(1<<20)] = 0x78
			wantWord(t, memory, c.p.Seg.V, c.p.Off, c.v, true)
		} else {
			wantWord(t, memory, 0x1000, 0x12, paragraph(0x4433), true)
		}
		if !slices.Equal(kept(memory), before) {
			t.Errorf("%v at %v: other bytes are written", c.v, c.p)
		}
	}
}

func TestSetWordOverOtherHalves(t *testing.T) {
	m := fresh()
	m.M.SetWord(0x1000, 0x10, paragraph(0x1111))
	m.M.SetWord(0x1000, 0x12, paragraph(0x2222))
	m.SetWord(at(0x1000, 0x11), number(5))
	wantState(t, m, api.Stuck)
	wantWord(t, m.M, 0x1000, 0x10, paragraph(0x1111), true)
	wantWord(t, m.M, 0x1000, 0x12, paragraph(0x2222), true)
}

func TestSetWordOverAParagraphThatComesRound(t *testing.T) {
	m := fresh()
	m.M.SetWord(0x1000, 0xffff, paragraph(0x7788))
	m.SetWord(at(0x1000, 0xffff), number(0x1234))
	wantState(t, m, api.Runs)
	wantWord(t, m.M, 0x1000, 0xffff, number(0x1234), true)
}

// The last byte of a segment and its first one are a word, also where just one of them is the program's.
func TestWordsThatComeRoundOutOfTheProgram(t *testing.T) {
	memory := mem.New()
	for _, size := range []int{0xffff, 1} {
		m := New(memory, nil, 0x1000, size)
		m.SetWord(at(0x1000, 0xffff), number(0x1234))
		wantState(t, m, api.Stuck)
		wantWord(t, memory, 0x1000, 0xffff, number(0), true)
		m = New(memory, nil, 0x1000, size)
		m.Word(at(0x1000, 0xffff))
		wantState(t, m, api.Stuck)
	}
}

// What a machine touches lets it be stuck, whether it ran until then or had ended; what it does then is written all the same.
func TestTouchingInEachState(t *testing.T) {
	for _, m := range standing() {
		m.SetWord(at(0x1000, 6), number(0x5678))
		if m.Word(at(0x1000, 6)) != number(0x5678) {
			t.Error("it is not written")
		}
		m.Byte(at(0x3000, 6))
		wantState(t, m, api.Stuck)
	}
}

func TestPlain(t *testing.T) {
	for _, v := range []uint16{0, 1, 0xff, 0x8000, 0xffff} {
		m := again(nil)
		if got := m.Plain(number(v)); got != v {
			t.Errorf("%x is %x", v, got)
		}
		wantState(t, m, api.Runs)
		if got := m.Plain(paragraph(v)); got != v {
			t.Errorf("the paragraph %x is %x", v, got)
		}
		wantState(t, m, api.Stuck)
	}
}

// somewhere is registers that are all unlike, with all segments' paragraphs.
func somewhere() api.Regs {
	var r api.Regs
	for n := range r.G {
		r.G[n] = number(uint16(0x1101 * (n + 1)))
	}
	for n := range r.S {
		r.S[n] = paragraph(uint16(0x1010 + 0x100*n))
	}
	return r
}

func TestPlace(t *testing.T) {
	r := somewhere()
	cases := []struct {
		i    api.Inst
		want api.Place
	}{
		{api.Inst{RM: 0}, api.Place{Seg: r.S[api.DS], Off: r.G[api.BX].V + r.G[api.SI].V}},
		{api.Inst{RM: 2, Mod: 1, Disp: 0xfff0}, api.Place{Seg: r.S[api.SS], Off: r.G[api.BP].V + r.G[api.SI].V - 16}},
		{api.Inst{RM: 6, Disp: 0x1234}, api.Place{Seg: r.S[api.DS], Off: 0x1234}},
		{api.Inst{RM: 6, Mod: 2, Disp: 1, Seg: 1 + api.ES}, api.Place{Seg: r.S[api.ES], Off: r.G[api.BP].V + 1}},
		{api.Inst{RM: 7, Seg: 1 + api.CS}, api.Place{Seg: r.S[api.CS], Off: r.G[api.BX].V}},
		{api.Inst{RM: 7, Mod: 3}, api.Place{Seg: r.S[api.DS]}},
	}
	for _, c := range cases {
		m := again(nil)
		m.R = r
		if got := m.Place(c.i); got != c.want {
			t.Errorf("of %+v: %v", c.i, got)
		}
		wantState(t, m, api.Runs)
	}
}

func TestPlaceOfParagraphs(t *testing.T) {
	// By RM: which registers count with Mod 1.
	counts := [][]int{
		{api.BX, api.SI}, {api.BX, api.DI}, {api.BP, api.SI}, {api.BP, api.DI}, {api.SI}, {api.DI}, {api.BP}, {api.BX},
	}
	for rm, l := range counts {
		for n := range 8 {
			m := again(nil)
			m.R = somewhere()
			m.R.G[n].T = true
			m.Place(api.Inst{Mod: 1, RM: rm})
			if (m.State() == api.Stuck) != slices.Contains(l, n) {
				t.Errorf("RM %d with a paragraph in %d: %d", rm, n, m.State())
			}
		}
	}
	m := again(nil)
	m.R.G[api.BP].T = true
	m.Place(api.Inst{Mod: 0, RM: 6})
	m.Place(api.Inst{Mod: 3, RM: 6})
	wantState(t, m, api.Runs)
}
