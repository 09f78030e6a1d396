package flow

import (
	"testing"

	"hansom/api"
	"hansom/core"
	"hansom/mem"
)

// doFar does EA or 9A, behind which an offset and a segment stand.
func doFar(t *testing.T, m *core.Machine, op byte, off, seg api.Val) {
	t.Helper()
	i := api.Inst{Op: op, Imm: off.V, Sel: seg.V}
	Do(m, i, row(t, i), off, seg)
}

func TestJumpFar(t *testing.T) {
	memory := mem.New()
	for _, seg := range []api.Val{paragraph(extraSeg), paragraph(0), paragraph(0xffff), number(0x1234), number(0)} {
		for _, off := range from {
			m := over(memory)
			want := m.R
			want.IP, want.S[api.CS] = off, seg
			doFar(t, m, 0xea, number(off), seg)
			wantRuns(t, m, want)
		}
	}
	wantKept(t, over(memory), make([]byte, 1<<20))
}

func TestCallFar(t *testing.T) {
	for _, sp := range stackPointers {
		for _, seg := range []api.Val{paragraph(extraSeg), number(0x1234)} {
			for _, cs := range []api.Val{paragraph(codeSeg), number(codeSeg)} {
				if cs.T && sp == 1 {
					// A paragraph is not laid at the offset 65535.
					continue
				}
				m := fresh()
				m.R.G[api.SP], m.R.S[api.CS] = number(sp), cs
				want := m.R
				want.IP, want.S[api.CS], want.G[api.SP] = 0xabcd, seg, number(sp-4)
				doFar(t, m, 0x9a, number(0xabcd), seg)
				wantRuns(t, m, want)
				wantWord(t, m, stackSeg, sp-2, cs)
				wantWord(t, m, stackSeg, sp-4, number(0x123))
				wantKept(t, m, make([]byte, 1<<20), onStack(sp-2), onStack(sp-4))
			}
		}
	}
}

func TestCallFarOverTheStacksEnd(t *testing.T) {
	m := fresh()
	m.R.G[api.SP] = number(1)
	doFar(t, m, 0x9a, number(0), paragraph(extraSeg))
	wantState(t, m, api.Stuck)
}

// pointers are where an offset and a segment may be in memory: the segment's offset comes round.
var pointers = []struct{ off, next uint16 }{
	{0x20, 0x22}, {0, 2}, {0xfffb, 0xfffd}, {0xfffc, 0xfffe}, {0xfffd, 0xffff}, {0xfffe, 0}, {0xffff, 1},
}

func TestFarOfWordsInMemory(t *testing.T) {
	for _, p := range pointers {
		for _, seg := range []api.Val{paragraph(extraSeg), number(0x1234)} {
			m := fresh()
			m.M.SetWord(dataSeg, p.off, number(0xbeef))
			m.M.SetWord(dataSeg, p.next, seg)
			before := kept(m)
			want := m.R
			want.IP, want.S[api.CS] = 0xbeef, seg
			// What is behind an instruction plays no part where it is told in memory.
			i := inMemory(jumpFarThere, p.off)
			Do(m, i, row(t, i), number(0x1111), number(0x2222))
			wantRuns(t, m, want)
			wantKept(t, m, before)

			m.R = somewhere()
			want.G[api.SP] = number(0x7fc)
			do(t, m, inMemory(callFarThere, p.off))
			wantRuns(t, m, want)
			wantWord(t, m, stackSeg, 0x7fe, paragraph(codeSeg))
			wantWord(t, m, stackSeg, 0x7fc, number(0x123))
			wantKept(t, m, before, onStack(0x7fe), onStack(0x7fc))
		}
	}
}

func TestFarOfWordsByRegisters(t *testing.T) {
	m := fresh()
	at := m.R.G[api.BX].V + m.R.G[api.DI].V + 8
	m.M.SetWord(extraSeg, at, number(0xbeef))
	m.M.SetWord(extraSeg, at+2, paragraph(0x1100))
	want := m.R
	want.IP, want.S[api.CS] = 0xbeef, paragraph(0x1100)
	do(t, m, api.Inst{Op: 0xff, Mod: 1, Reg: jumpFarThere, RM: 1, Disp: 8, Seg: 1 + api.ES})
	wantRuns(t, m, want)
}

// What a far call pushes may lie where it is told where to go: that is read ahead, both words.
func TestCallFarOfWordsBelowTheStack(t *testing.T) {
	for _, off := range []uint16{0x7fa, 0x7fb, 0x7fc, 0x7fd, 0x7fe, 0x7ff} {
		m := fresh()
		m.R.S[api.CS] = number(0x5151)
		m.M.SetWord(stackSeg, off, number(0xbeef))
		m.M.SetWord(stackSeg, off+2, number(0x1234))
		i := inMemory(callFarThere, off)
		i.Seg = 1 + api.SS
		want := m.R
		want.IP, want.S[api.CS], want.G[api.SP] = 0xbeef, number(0x1234), number(0x7fc)
		do(t, m, i)
		wantRuns(t, m, want)
		wantWord(t, m, stackSeg, 0x7fe, number(0x5151))
		wantWord(t, m, stackSeg, 0x7fc, number(0x123))
	}
}

func TestFarIsStuck(t *testing.T) {
	for _, op := range []byte{0x9a, 0xea} {
		m := fresh()
		doFar(t, m, op, paragraph(0x20), paragraph(extraSeg))
		wantState(t, m, api.Stuck)
	}
	for _, middle := range []int{callFarThere, jumpFarThere} {
		// An offset that is a paragraph.
		m := fresh()
		m.M.SetWord(dataSeg, 0x20, paragraph(0x1234))
		do(t, m, inMemory(middle, 0x20))
		wantState(t, m, api.Stuck)
		// A segment that is half a paragraph's word.
		m = fresh()
		m.M.SetWord(dataSeg, 0x23, paragraph(0x1234))
		do(t, m, inMemory(middle, 0x20))
		wantState(t, m, api.Stuck)
		// A segment that is not the program's: it ends between both words.
		m = fresh()
		m.R.S[api.DS] = paragraph(programPara + programSize/16 - 1)
		do(t, m, inMemory(middle, 14))
		wantState(t, m, api.Stuck)
		m = fresh()
		m.R.S[api.DS] = paragraph(programPara + programSize/16 - 1)
		do(t, m, inMemory(middle, 12))
		wantState(t, m, api.Runs)
	}
}

func TestReturnFar(t *testing.T) {
	for _, sp := range stackPointers {
		for _, cs := range []api.Val{paragraph(extraSeg), number(0x1234)} {
			m := fresh()
			m.M.SetWord(stackSeg, sp, number(0xbeef))
			m.M.SetWord(stackSeg, sp+2, cs)
			before := kept(m)
			for _, bytes := range []uint16{0, 1, 2, 4, 0x10, 0x8000, 0xfffc, 0xffff} {
				m.R = somewhere()
				m.R.G[api.SP] = number(sp)
				want := m.R
				want.IP, want.S[api.CS], want.G[api.SP] = 0xbeef, cs, number(sp+4+bytes)
				do(t, m, short(0xca, bytes))
				wantRuns(t, m, want)
			}
			m.R = somewhere()
			m.R.G[api.SP] = number(sp)
			want := m.R
			want.IP, want.S[api.CS], want.G[api.SP] = 0xbeef, cs, number(sp+4)
			do(t, m, short(0xcb, 0))
			wantRuns(t, m, want)
			wantKept(t, m, before)
		}
	}
}

func TestCallAndReturnFar(t *testing.T) {
	for _, sp := range stackPointers {
		if sp == 1 {
			continue
		}
		for _, cs := range []api.Val{paragraph(codeSeg), number(0x1357)} {
			m := fresh()
			m.R.G[api.SP], m.R.S[api.CS] = number(sp), cs
			want := m.R
			doFar(t, m, 0x9a, number(0x40), paragraph(extraSeg))
			do(t, m, short(0xcb, 0))
			wantRuns(t, m, want)
			do(t, m, inMemory(callFarThere, 0x30))
			do(t, m, short(0xca, 6))
			want.G[api.SP].V += 6
			wantRuns(t, m, want)
		}
	}
}

func TestReturnFarIsStuck(t *testing.T) {
	for _, op := range []byte{0xca, 0xcb, 0xcf} {
		// An offset that is a paragraph.
		m := fresh()
		m.M.SetWord(stackSeg, 0x800, paragraph(0x1234))
		do(t, m, short(op, 0))
		wantState(t, m, api.Stuck)
		// A segment that is half a paragraph's word.
		m = fresh()
		m.M.SetWord(stackSeg, 0x803, paragraph(0x1234))
		do(t, m, short(op, 0))
		wantState(t, m, api.Stuck)
		// A stack that ends behind the offset.
		m = fresh()
		m.R.S[api.SS], m.R.G[api.SP] = paragraph(programPara+programSize/16-1), number(14)
		do(t, m, short(op, 0))
		wantState(t, m, api.Stuck)
	}
	m := fresh()
	Do(m, short(0xca, 2), row(t, short(0xca, 2)), paragraph(2), number(0))
	wantState(t, m, api.Stuck)
	m = fresh()
	m.M.SetWord(stackSeg, 0x804, paragraph(2))
	do(t, m, short(0xcf, 0))
	wantState(t, m, api.Stuck)
}

// A stack that is not the program's, or whose SP is a paragraph.
func TestStacksThatAreNotTheProgramsAreStuck(t *testing.T) {
	uses := []api.Inst{
		short(0xe8, 4), inRegister(callThere, api.AX), inMemory(callThere, 0x20), {Op: 0x9a, Sel: extraSeg},
		inMemory(callFarThere, 0x20), short(0xc2, 2), short(0xc3, 0), short(0xca, 2), short(0xcb, 0), short(0xcf, 0),
	}
	for _, i := range uses {
		m := fresh()
		m.R.S[api.SS] = number(stackSeg)
		do(t, m, i)
		wantState(t, m, api.Stuck)
		m = fresh()
		m.R.S[api.SS] = paragraph(0x800)
		do(t, m, i)
		wantState(t, m, api.Stuck)
		m = fresh()
		m.R.G[api.SP].T = true
		do(t, m, i)
		wantState(t, m, api.Stuck)
		m = fresh()
		do(t, m, i)
		wantState(t, m, api.Runs)
	}
}

// IRET pops IP, CS and the flags, in this order.
func TestReturnFromInterrupt(t *testing.T) {
	flags := []struct{ word, want uint16 }{
		{0, 0}, {0xffff, api.Flags}, {api.Fixed, 0}, {api.FlagC | api.FlagO, api.FlagC | api.FlagO}, {0x0fd5, 0x0fd5},
		{0xf02a, 0}, {0xf2c3, api.FlagI | api.FlagS | api.FlagZ | api.FlagC}, {api.FlagT, api.FlagT}, {api.FlagD, api.FlagD},
	}
	for _, sp := range stackPointers {
		for _, cs := range []api.Val{paragraph(extraSeg), number(0x1234)} {
			for _, f := range flags {
				if cs.T && sp == 0xfffd {
					continue
				}
				m := fresh()
				m.R.G[api.SP], m.R.F = number(sp), api.FlagI|api.FlagP
				m.M.SetWord(stackSeg, sp, number(0xbeef))
				m.M.SetWord(stackSeg, sp+2, cs)
				m.M.SetWord(stackSeg, sp+4, number(f.word))
				before := kept(m)
				want := m.R
				want.IP, want.S[api.CS], want.F, want.G[api.SP] = 0xbeef, cs, f.want, number(sp+6)
				// Nothing stands behind it that is taken from the stack.
				i := api.Inst{Op: 0xcf}
				Do(m, i, row(t, i), number(0), number(0))
				wantRuns(t, m, want)
				wantKept(t, m, before)
			}
		}
	}
}

// asked is a machine's event of a call of the world that had these registers.
func asked(n, v uint16, was api.Regs) api.Event {
	return api.Event{
		Kind: api.EvInt, N: n, V: v,
		A: was.G[api.AX].V, B: was.G[api.BX].V, C: was.G[api.CX].V, D: was.G[api.DX].V,
	}
}

func TestInterrupt(t *testing.T) {
	memory := mem.New()
	for n := range uint16(256) {
		if n == api.IntEnd {
			continue
		}
		m := over(memory, 0x9753, 0x1111)
		want := m.R
		want.G[api.AX] = number(0x9753)
		was := m.R
		do(t, m, short(0xcd, n))
		wantState(t, m, api.Runs)
		wantRegs(t, m, want)
		wantEvents(t, m, asked(n, 0x9753, was))
		if m.W.Used() != 1 {
			t.Fatalf("%d replies are used", m.W.Used())
		}
	}
	wantKept(t, over(memory), make([]byte, 1<<20))
}

func TestInterruptThree(t *testing.T) {
	m := fresh(0x9753)
	was, want := m.R, m.R
	want.G[api.AX] = number(0x9753)
	// What is told as behind it plays no part.
	i := api.Inst{Op: 0xcc}
	Do(m, i, row(t, i), number(0x20), number(0))
	wantState(t, m, api.Runs)
	wantRegs(t, m, want)
	wantEvents(t, m, asked(3, 0x9753, was))
}

func TestInterruptOnOverflow(t *testing.T) {
	memory := mem.New()
	for f := range uint16(1 << 12) {
		f &= api.Flags
		m := over(memory, 0x9753)
		m.R.F = f
		was, want := m.R, m.R
		i := api.Inst{Op: 0xce}
		Do(m, i, row(t, i), number(0x20), number(0))
		if f&api.FlagO == 0 {
			wantRuns(t, m, want)
			continue
		}
		want.G[api.AX] = number(0x9753)
		wantState(t, m, api.Runs)
		wantRegs(t, m, want)
		wantEvents(t, m, asked(4, 0x9753, was))
	}
}

// Behind the last reply it is 0; each call has the AX that the one ahead of it answered.
func TestInterruptsOneBehindTheOther(t *testing.T) {
	m := fresh(0x5555, 0x6666)
	var want []api.Event
	for _, c := range []struct{ n, v uint16 }{{0x10, 0x5555}, {0x21, 0x6666}, {0xff, 0}, {0, 0}} {
		want = append(want, asked(c.n, c.v, m.R))
		do(t, m, short(0xcd, c.n))
		if m.R.G[api.AX] != number(c.v) {
			t.Fatalf("AX is %v", m.R.G[api.AX])
		}
	}
	wantState(t, m, api.Runs)
	wantEvents(t, m, want...)
}

// All of AX, BX, CX and DX are plain, else it is stuck, and the world does not hear of it, nor is it ended by it.
func TestInterruptWithParagraphs(t *testing.T) {
	memory := mem.New()
	told := []int{api.AX, api.BX, api.CX, api.DX}
	for _, i := range []api.Inst{short(0xcd, 0x10), short(0xcd, api.IntEnd), short(0xcc, 0), short(0xce, 0)} {
		for which := range 1 << len(told) {
			m := over(memory, 0x9753)
			m.R.F = api.FlagO
			for k, n := range told {
				m.R.G[n].T = which>>k&1 == 1
			}
			do(t, m, i)
			if which == 0 {
				if m.State() == api.Stuck || len(m.W.Events()) != 1 {
					t.Fatalf("of %+v: %d, %v", i, m.State(), m.W.Events())
				}
				continue
			}
			wantState(t, m, api.Stuck)
			wantEvents(t, m)
			if m.W.Used() != 0 {
				t.Fatalf("of %+v replies are used", i)
			}
		}
	}
}

// Without O no paragraph plays a part; nor do those of other registers with it.
func TestParagraphsThatTheWorldIsNotTold(t *testing.T) {
	m := fresh(7)
	m.R.F = 0
	for n := range m.R.G {
		m.R.G[n].T = true
	}
	want := m.R
	do(t, m, short(0xce, 0))
	wantRuns(t, m, want)

	m = fresh(7)
	for _, n := range []int{api.SP, api.BP, api.SI, api.DI} {
		m.R.G[n].T = true
	}
	was, want := m.R, m.R
	want.G[api.AX] = number(7)
	do(t, m, short(0xcd, 0x10))
	wantState(t, m, api.Runs)
	wantRegs(t, m, want)
	wantEvents(t, m, asked(0x10, 7, was))
}

func TestInterruptOfAParagraph(t *testing.T) {
	m := fresh(7)
	Do(m, short(0xcd, 0x10), row(t, short(0xcd, 0x10)), paragraph(0x10), number(0))
	wantState(t, m, api.Stuck)
	wantEvents(t, m)
}

// The world may end it: AX is what it was, no reply is used, and nothing is noted beside the call.
func TestInterruptThatEnds(t *testing.T) {
	cases := []struct {
		n, ax uint16
		ends  bool
	}{
		{api.IntEnd, 0x1a01, true}, {api.IntEnd, 0, true}, {api.IntEnd, 0x4c00, true},
		{api.IntDos, 0x4c00, true}, {api.IntDos, 0x4cff, true}, {api.IntDos, 0x4b00, false}, {api.IntDos, 0x4d00, false},
		{api.IntDos, 0x004c, false}, {api.IntDos, 0xcc00, false}, {0x1f, 0x4c00, false}, {0x22, 0x4c00, false}, {4, 0x4c00, false},
	}
	memory := mem.New()
	for _, c := range cases {
		m := over(memory, 0x9753)
		m.R.G[api.AX] = number(c.ax)
		was, want := m.R, m.R
		do(t, m, short(0xcd, c.n))
		if c.ends {
			wantState(t, m, api.Ended)
			wantRegs(t, m, want)
			wantEvents(t, m, asked(c.n, c.ax, was))
			continue
		}
		want.G[api.AX] = number(0x9753)
		wantState(t, m, api.Runs)
		wantRegs(t, m, want)
		wantEvents(t, m, asked(c.n, 0x9753, was))
	}
}

// A world that is none ends it at any call.
func TestInterruptWithoutWorld(t *testing.T) {
	for _, i := range []api.Inst{short(0xcd, 0x10), short(0xcc, 0), short(0xce, 0)} {
		m := core.New(nil, nil, programPara, programSize)
		m.R = somewhere()
		m.R.F = api.FlagO
		want := m.R
		do(t, m, i)
		wantState(t, m, api.Ended)
		wantRegs(t, m, want)
	}
}
