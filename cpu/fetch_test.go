package cpu

import (
	"slices"
	"testing"

	"hansom/api"
	"hansom/code"
	"hansom/core"
	"hansom/inst"
	"hansom/isa"
	"hansom/mem"
	"hansom/world"
)

// fetched is what Fetch tells.
type fetched struct {
	i        api.Inst
	n        int
	imm, sel api.Val
	is       bool
}

func fetch(m *core.Machine) fetched {
	var f fetched
	f.i, f.n, f.imm, f.sel, f.is = Fetch(m)
	return f
}

// plainly is what Fetch is to tell of an instruction behind which no paragraph's word stands.
func plainly(i api.Inst) fetched {
	return fetched{i, inst.Len(i), number(i.Imm), number(i.Sel), true}
}

// wantFetched fetches, which changes nothing.
func wantFetched(t *testing.T, m *core.Machine, want fetched) {
	t.Helper()
	was := m.R
	if got := fetch(m); got != want {
		t.Fatalf("fetched is\n%+v, want\n%+v; IP is %04x", got, want, m.R.IP)
	}
	wantRegs(t, m, was)
	wantState(t, m, api.Runs)
	wantEvents(t, m)
}

// wantNothing fetches what is not there, or may not be.
func wantNothing(t *testing.T, m *core.Machine, state int) {
	t.Helper()
	was := m.R
	if got := fetch(m); got != (fetched{}) {
		t.Fatalf("fetched is %+v", got)
	}
	wantRegs(t, m, was)
	wantState(t, m, state)
	if state == api.Ended {
		wantEvents(t, m, api.Event{Kind: api.EvBad})
	} else {
		wantEvents(t, m)
	}
}

// wantNoStep does the step of what is not there, or may not be: it is one, and changes nothing.
func wantNoStep(t *testing.T, m *core.Machine, state int) {
	t.Helper()
	was, bytes := m.R, all(m)
	if !Step(m) {
		t.Fatal("it doesn't run")
	}
	wantRegs(t, m, was)
	wantBytes(t, m, bytes)
	wantState(t, m, state)
	if state == api.Ended {
		wantEvents(t, m, api.Event{Kind: api.EvBad})
	} else {
		wantEvents(t, m)
	}
	if Step(m) {
		t.Fatal("it runs on")
	}
}

// bytesOf is an instruction's bytes.
func bytesOf(t *testing.T, i api.Inst) []byte {
	t.Helper()
	b, e := code.Put(i)
	if e != api.OK {
		t.Fatalf("%+v has no bytes: %d", i, e)
	}
	return b
}

// drawnInsts are instructions of every first byte and middle, and Mod, with drawn parts.
func drawnInsts(d *drawer) []api.Inst {
	var l []api.Inst
	for op := range 256 {
		for reg := range 8 {
			row, is := isa.Of(byte(op), reg)
			if !is || !row.Mod && reg > 0 {
				continue
			}
			for mod := range 4 {
				i := api.Inst{Op: byte(op)}
				if row.Mod {
					i.Mod, i.Reg, i.RM = mod, reg, d.below(8)
				}
				i = filled(d, i, row)
				// Of what is in memory alone Mod is not 3.
				if inst.May(i) {
					l = append(l, i)
				}
			}
		}
	}
	return l
}

// filled is an instruction with drawn prefixes, and with a drawn Disp, Imm and Sel as far as it has these.
func filled(d *drawer, i api.Inst, row api.Row) api.Inst {
	i.Lock, i.Seg = d.below(2) == 0, d.below(5)
	switch isa.Repeats(row.Name) {
	case 1:
		i.Rep = 2 * d.below(2)
	case 2:
		i.Rep = d.below(3)
	}
	if row.Mod {
		switch inst.Disps(i.Mod, i.RM) {
		case 1:
			i.Disp = uint16(int8(d.word()))
		case 2:
			i.Disp = d.word()
		}
	}
	for _, op := range [2]int{row.A, row.B} {
		switch op {
		case api.OpIb:
			i.Imm = d.word() & 0xff
		case api.OpIs, api.OpJb:
			i.Imm = uint16(int8(d.word()))
		case api.OpIv, api.OpJv, api.OpOb, api.OpOv:
			i.Imm = d.word()
		case api.OpAp:
			i.Imm, i.Sel = d.word(), d.word()
		}
	}
	if row.Name == api.AAM || row.Name == api.AAD {
		i.Imm = 10
	}
	return i
}

// longest is how many bytes an instruction has at most: what repeats has no second byte, so that three prefixes never stand ahead of one.
const longest = 8

// Instructions of all kinds and of each length, also over the segment's end.
func TestFetch(t *testing.T) {
	d := drawer(16)
	m := over(mem.New())
	lengths := map[int]int{}
	for range 6 {
		for _, i := range drawnInsts(&d) {
			for _, ip := range []uint16{0, firstIP, d.word(), 0 - uint16(d.below(inst.Len(i))), 0xfff4, 0xfff5, 0xffff} {
				m.R.IP = ip
				lay(m, ip, bytesOf(t, i))
				wantFetched(t, m, plainly(i))
			}
			lengths[inst.Len(i)]++
		}
	}
	for n := 1; n <= longest; n++ {
		if lengths[n] == 0 {
			t.Errorf("none has %d bytes", n)
		}
	}
}

// By hand, prefixes in another order than code has them among them.
func TestFetchByHand(t *testing.T) {
	cases := []struct {
		bytes []byte
		want  fetched
	}{
		{[]byte{0x90}, fetched{api.Inst{Op: 0x90}, 1, number(0), number(0), true}},
		{[]byte{0xcd, 0x21}, fetched{api.Inst{Op: 0xcd, Imm: 0x21}, 2, number(0x21), number(0), true}},
		{[]byte{0x74, 0xfb}, fetched{api.Inst{Op: 0x74, Imm: 0xfffb}, 2, number(0xfffb), number(0), true}},
		{[]byte{0xb8, 0x34, 0x12}, fetched{api.Inst{Op: 0xb8, Imm: 0x1234}, 3, number(0x1234), number(0), true}},
		{[]byte{0x9a, 0x78, 0x56, 0x34, 0x12}, fetched{api.Inst{Op: 0x9a, Imm: 0x5678, Sel: 0x1234}, 5, number(0x5678), number(0x1234), true}},
		{[]byte{0x26, 0xf0, 0xa3, 1, 2}, fetched{api.Inst{Op: 0xa3, Seg: 1, Lock: true, Imm: 0x0201}, 5, number(0x0201), number(0), true}},
		{[]byte{0x3e, 0xf3, 0xa4}, fetched{api.Inst{Op: 0xa4, Seg: 4, Rep: 2}, 3, number(0), number(0), true}},
		{
			[]byte{0x2e, 0xf0, 0x81, 0x80, 0x10, 0x20, 0x30, 0x40},
			fetched{api.Inst{Op: 0x81, Seg: 2, Lock: true, Mod: 2, Disp: 0x2010, Imm: 0x4030}, 8, number(0x4030), number(0), true},
		},
		{[]byte{0x83, 0xc0, 0x80}, fetched{api.Inst{Op: 0x83, Mod: 3, Imm: 0xff80}, 3, number(0xff80), number(0), true}},
	}
	for _, c := range cases {
		m := with(c.bytes...)
		wantFetched(t, m, c.want)
		m = over(m.M)
		m.R.IP = 0x10000 - 1
		lay(m, m.R.IP, c.bytes)
		wantFetched(t, m, c.want)
	}
}

// Its bytes count from CS, wherever that is; the memory comes round.
func TestFetchFromCS(t *testing.T) {
	for _, seg := range []uint16{0x1234, 0, 0xfff8, 0xffff, 0xf001} {
		m := core.New(mem.New(), world.New(nil), 0, api.MemoryBytes)
		m.R.S[api.CS], m.R.IP = paragraph(seg), 0xfffe
		lay(m, m.R.IP, []byte{0xb8, 0x34, 0x12})
		wantFetched(t, m, plainly(api.Inst{Op: 0xb8, Imm: 0x1234}))
	}
}

// Code that is no paragraph of the program's, or elsewhere, is stuck.
func TestFetchFromElsewhere(t *testing.T) {
	for _, cs := range []api.Val{number(codeSeg), paragraph(0x0f00), paragraph(0x5000), paragraph(0)} {
		for _, bytes := range [][]byte{{0x90}, {0x0f}} {
			m := over(mem.New())
			m.R.S[api.CS] = cs
			lay(m, firstIP, bytes)
			wantNothing(t, m, api.Stuck)
			m = over(m.M)
			m.R.S[api.CS] = cs
			wantNoStep(t, m, api.Stuck)
		}
	}
}

// ending is a machine whose program has just so many bytes from IP on.
func ending(memory *mem.Memory, left int) *core.Machine {
	m := core.New(memory, world.New(nil), programPara, firstIP+left)
	m.R.S[api.CS], m.R.IP = paragraph(codeSeg), firstIP
	return m
}

// Instructions that just end with the program, and that are a byte longer.
func TestFetchAtTheProgramsEnd(t *testing.T) {
	d := drawer(3)
	memory := mem.New()
	for _, i := range drawnInsts(&d) {
		bytes := bytesOf(t, i)
		for left := range api.MostBytes + 1 {
			m := ending(memory, left)
			lay(m, firstIP, bytes)
			if left >= len(bytes) {
				wantFetched(t, m, plainly(i))
			} else {
				wantNothing(t, m, api.Stuck)
			}
		}
	}
}

// Those ahead of the program's first byte, too.
func TestFetchAheadOfTheProgram(t *testing.T) {
	m := over(mem.New())
	m.R.S[api.CS], m.R.IP = paragraph(programPara-1), 15
	lay(m, 15, []byte{0xb0, 5})
	wantNothing(t, m, api.Stuck)
	m = over(m.M)
	m.R.S[api.CS], m.R.IP = paragraph(programPara-1), 16
	wantFetched(t, m, plainly(api.Inst{Op: 5}))
}

// noInsts are bytes with which no instruction begins.
func noInsts() [][]byte {
	return [][]byte{
		{0x0f}, {0x60}, {0x6f}, {0x82}, {0xd6}, {0xf1}, {0xc0}, {0xc8}, {0xd4, 9}, {0xd5, 11}, {0x8d, 0xc0}, {0xff, 0xf8},
		{0xff, 0xd8}, {0xf6, 0x08}, {0x8e, 0xc8}, {0x8c, 0xe0}, {0x83, 0xc8, 1}, {0xf0, 0xf0, 0x90}, {0x26, 0x2e, 0x90}, {0xf2, 0xf3, 0xa6},
		{0xf3, 0x90}, {0xf2, 0xa4}, {0xd0, 0xf0}, {0xf0, 0x26, 0xf3, 0x0f},
	}
}

// What is no instruction ends it, if all 12 bytes are the program's and plain.
func TestFetchNoInstruction(t *testing.T) {
	memory := mem.New()
	for _, bytes := range noInsts() {
		for left := range api.MostBytes + 2 {
			state := api.Stuck
			if left >= api.MostBytes {
				state = api.Ended
			}
			m := ending(memory, left)
			lay(m, firstIP, bytes)
			wantNothing(t, m, state)
		}
		m := over(mem.New())
		lay(m, firstIP, bytes)
		wantNoStep(t, m, api.Ended)
		// Also over the segment's end.
		m = over(memory)
		m.R.IP = 0xfffe
		lay(m, m.R.IP, bytes)
		wantNothing(t, m, api.Ended)
		lay(m, m.R.IP, make([]byte, len(bytes)))
	}
}

// Where one of the 12 is of a paragraph's word it is stuck; behind them that plays no part.
func TestFetchNoInstructionBesideParagraphs(t *testing.T) {
	for at := -2; at <= api.MostBytes; at++ {
		m := over(mem.New())
		m.M.SetWord(codeSeg, uint16(firstIP+at), paragraph(0x0f0f))
		if at == -2 || at > 0 {
			// Else the word's own byte is the one that is no instruction.
			lay(m, firstIP, []byte{0x0f})
		}
		state := api.Stuck
		if at == -2 || at == api.MostBytes {
			state = api.Ended
		}
		wantNothing(t, m, state)
	}
	// One half of it alone.
	m := with(0x0f)
	m.M.SetWord(codeSeg, firstIP+5, paragraph(0))
	m.M.SetByte(codeSeg, firstIP+6, 0)
	wantNothing(t, m, api.Stuck)
}

// nowhere is no place in an instruction's bytes, nor beside them.
const nowhere = -100

// mayCount tells where in its bytes an instruction has a word that may be a paragraph's.
func mayCount(i api.Inst) int {
	row, _ := isa.Of(i.Op, i.Reg)
	switch {
	case row.A == api.OpIv || row.B == api.OpIv:
		return inst.Len(i) - 2
	case row.A == api.OpAp:
		return inst.Len(i) - 2
	}
	return nowhere
}

// Paragraphs' words at each place of each instruction, and beside it: it is told of Iv's Imm and Ap's Sel, and stuck of all others.
func TestFetchParagraphs(t *testing.T) {
	d := drawer(5)
	memory := mem.New()
	told := map[bool]int{}
	for _, i := range drawnInsts(&d) {
		bytes := bytesOf(t, i)
		for _, ip := range []uint16{firstIP, 0xfffe, 0xffff, 0xfffc} {
			for at := -2; at <= len(bytes); at++ {
				m := over(memory)
				m.R.IP = ip
				m.M.SetWord(codeSeg, ip+uint16(at), number(0))
				lay(m, ip, bytes)
				v, _ := m.M.Word(codeSeg, ip+uint16(at))
				m.M.SetWord(codeSeg, ip+uint16(at), paragraph(v.V))
				want := plainly(i)
				switch {
				case at == -2, at == len(bytes):
					wantFetched(t, m, want)
				case at == mayCount(i):
					if i.Op == 0x9a || i.Op == 0xea {
						want.sel.T = true
					} else {
						want.imm.T = true
					}
					wantFetched(t, m, want)
					told[want.sel.T]++
				default:
					wantNothing(t, m, api.Stuck)
				}
				m.M.SetWord(codeSeg, ip+uint16(at), number(0))
			}
		}
	}
	if told[true] == 0 || told[false] == 0 {
		t.Errorf("told are %v", told)
	}
}

// Where a paragraph's word may stand, halves of others stand: one beside a plain byte, two that are alike, or both the wrong way round.
func TestFetchHalves(t *testing.T) {
	halves := []func(m *core.Machine, at uint16){
		func(m *core.Machine, at uint16) {
			m.M.SetWord(codeSeg, at, paragraph(0x0a0a))
			m.M.SetByte(codeSeg, at+1, 0x0a)
		},
		func(m *core.Machine, at uint16) {
			m.M.SetWord(codeSeg, at, paragraph(0x0a0a))
			m.M.SetByte(codeSeg, at, 0x0a)
		},
		func(m *core.Machine, at uint16) {
			m.M.SetWord(codeSeg, at, paragraph(0x0a0a))
			m.M.SetWord(codeSeg, at+1, paragraph(0x0a0a))
		},
		func(m *core.Machine, at uint16) {
			ahead, _ := m.M.Byte(codeSeg, at-1)
			m.M.SetWord(codeSeg, at, paragraph(0x0a0a))
			m.M.SetWord(codeSeg, at-1, paragraph(0x0a0a))
			m.M.SetByte(codeSeg, at-1, ahead)
		},
		func(m *core.Machine, at uint16) {
			ahead, _ := m.M.Byte(codeSeg, at-1)
			m.M.SetWord(codeSeg, at-1, paragraph(0x0a0a))
			m.M.SetWord(codeSeg, at+1, paragraph(0x0a0a))
			m.M.SetByte(codeSeg, at-1, ahead)
		},
	}
	for _, bytes := range [][]byte{{0xb8, 0, 0}, {0xea, 0x78, 0x56, 0, 0}, {0xc7, 0x06, 0, 0, 0, 0}, {0x3d, 0, 0}} {
		for _, half := range halves {
			m := with(bytes...)
			half(m, uint16(firstIP+len(bytes)-2))
			wantNothing(t, m, api.Stuck)
		}
	}
}

// Two halves, one of each of two paragraphs' words, the lower one first, are a paragraph's word.
func TestFetchHalvesOfTwo(t *testing.T) {
	const last = 0xffff
	m := over(mem.New())
	// The word's bytes stand at 10 hex times something less 1, and at that: there end, and begin, words that come round in segments of their own.
	m.R.IP = 0x010e
	lay(m, m.R.IP, []byte{0xb8})
	m.M.SetWord(codeSeg+0x11-0x1000, last, paragraph(0x0034))
	m.M.SetWord(codeSeg+0x11, last, paragraph(0x1200))
	wantFetched(t, m, fetched{api.Inst{Op: 0xb8, Imm: 0x1234}, 3, paragraph(0x1234), number(0), true})
}

// What is fetched of what doesn't run lets that be as it was, but where it is stuck.
func TestFetchOfWhatDoesNotRun(t *testing.T) {
	m := with(0x0f)
	m.End(api.EvHalt)
	if got := fetch(m); got != (fetched{}) {
		t.Errorf("fetched is %+v", got)
	}
	wantState(t, m, api.Ended)
	wantEvents(t, m, api.Event{Kind: api.EvHalt})
}

// What was fetched is read anew each time.
func TestFetchAnew(t *testing.T) {
	m := with(0xb0, 5)
	wantFetched(t, m, plainly(api.Inst{Op: 0xb0, Imm: 5}))
	m.M.SetByte(codeSeg, firstIP+1, 6)
	wantFetched(t, m, plainly(api.Inst{Op: 0xb0, Imm: 6}))
	m.R.IP++
	wantFetched(t, m, plainly(api.Inst{Op: 6}))
	if b := all(m)[codeSeg*16+firstIP:][:2]; !slices.Equal(b, []byte{0xb0, 6}) {
		t.Errorf("the bytes are % x", b)
	}
}
