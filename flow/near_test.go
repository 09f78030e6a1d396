package flow

import (
	"testing"

	"hansom/api"
	"hansom/mem"
)

// by are so many bytes on, forwards and backwards.
var by = []uint16{
	0, 1, 2, 5, 0x10, 0x7f, 0xff80, 0xff81, 0xfff0, 0xfffe, 0xffff, 0x80, 0x100, 0x1000, 0x7fff, 0x8000, 0xfedc,
}

// from are offsets behind an instruction, a segment's last and first ones among them.
var from = []uint16{0, 1, 2, 0x123, 0x7fff, 0x8000, 0xff80, 0xfff0, 0xfffe, 0xffff}

func TestJumpByHand(t *testing.T) {
	cases := []struct {
		i        api.Inst
		ip, want uint16
	}{
		{short(0xeb, 5), 0x100, 0x105}, {short(0xeb, 0xfffe), 0x100, 0xfe}, {short(0xeb, 0xff80), 0x7f, 0xffff},
		{short(0xeb, 0x7f), 0xffff, 0x7e}, {short(0xeb, 0), 0x100, 0x100}, {short(0xeb, 1), 0xffff, 0},
		{short(0xe9, 0x1234), 0x100, 0x1334}, {short(0xe9, 0x8000), 0x8001, 1}, {short(0xe9, 0xffff), 0, 0xffff},
	}
	memory := mem.New()
	for _, c := range cases {
		m := over(memory)
		m.R.IP = c.ip
		want := m.R
		want.IP = c.want
		do(t, m, c.i)
		wantRuns(t, m, want)
	}
}

func TestJumpSoManyBytesOn(t *testing.T) {
	memory := mem.New()
	for _, op := range []byte{0xe9, 0xeb} {
		for _, ip := range from {
			for _, far := range by {
				m := over(memory)
				m.R.IP = ip
				want := m.R
				want.IP = uint16(int(ip) + int(far))
				do(t, m, short(op, far))
				wantRuns(t, m, want)
			}
		}
	}
	wantKept(t, over(memory), make([]byte, 1<<20))
}

// Each jump with a condition is made where that holds, and else nothing happens, at all flags.
func TestJumpOnConditions(t *testing.T) {
	memory := mem.New()
	for code := range 16 {
		for f := range uint16(1 << 12) {
			f &= api.Flags
			far := by[int(f)%len(by)]
			m := over(memory)
			m.R.F, m.R.IP = f, from[int(f)%len(from)]
			want := m.R
			if holding(api.JO+code, f) {
				want.IP += far
			}
			do(t, m, short(0x70+byte(code), far))
			wantRuns(t, m, want)
		}
	}
	wantKept(t, over(memory), make([]byte, 1<<20))
}

// inRegister and inMemory are instructions FF, whose operand is a word (or, of the far ones, an offset and a segment).
func inRegister(middle, n int) api.Inst { return api.Inst{Op: 0xff, Mod: 3, Reg: middle, RM: n} }
func inMemory(middle int, off uint16) api.Inst {
	return api.Inst{Op: 0xff, Reg: middle, RM: 6, Disp: off}
}

// The middles of FF.
const (
	callThere    = 2
	callFarThere = 3
	jumpThere    = 4
	jumpFarThere = 5
)

func TestJumpToARegister(t *testing.T) {
	memory := mem.New()
	for n := range 8 {
		m := over(memory)
		want := m.R
		want.IP = want.G[n].V
		do(t, m, inRegister(jumpThere, n))
		wantRuns(t, m, want)
	}
	wantKept(t, over(memory), make([]byte, 1<<20))
}

func TestJumpToAWordInMemory(t *testing.T) {
	r := somewhere()
	places := []struct {
		i   api.Inst
		seg int
		off uint16
	}{
		{inMemory(jumpThere, 0x20), api.DS, 0x20},
		{inMemory(jumpThere, 0xffff), api.DS, 0xffff},
		{api.Inst{Op: 0xff, Reg: jumpThere, RM: 7}, api.DS, r.G[api.BX].V},
		{api.Inst{Op: 0xff, Reg: jumpThere, RM: 2, Mod: 1, Disp: 0xfff0}, api.SS, r.G[api.BP].V + r.G[api.SI].V - 16},
		{api.Inst{Op: 0xff, Reg: jumpThere, RM: 4, Seg: 1 + api.ES}, api.ES, r.G[api.SI].V},
		{api.Inst{Op: 0xff, Reg: jumpThere, RM: 5, Mod: 2, Disp: 0x111, Seg: 1 + api.CS}, api.CS, r.G[api.DI].V + 0x111},
	}
	for _, p := range places {
		m := fresh()
		m.M.SetWord(r.S[p.seg].V, p.off, number(0xbeef))
		before := kept(m)
		want := m.R
		want.IP = 0xbeef
		do(t, m, p.i)
		wantRuns(t, m, want)
		wantKept(t, m, before)
	}
}

func TestParagraphsAreNowhereToGo(t *testing.T) {
	for _, middle := range []int{callThere, jumpThere} {
		for n := range 8 {
			m := fresh()
			m.R.G[n].T = true
			do(t, m, inRegister(middle, n))
			wantState(t, m, api.Stuck)
		}
		m := fresh()
		m.M.SetWord(dataSeg, 0x20, paragraph(0x1234))
		do(t, m, inMemory(middle, 0x20))
		wantState(t, m, api.Stuck)
	}
	for _, op := range []byte{0xe8, 0xe9, 0xeb} {
		m := fresh()
		Do(m, short(op, 4), row(t, short(op, 4)), paragraph(4), number(0))
		wantState(t, m, api.Stuck)
	}
}

// A word that is half a paragraph's, one that is not the program's, and one whose place hangs on a paragraph.
func TestWordsThatAreNowhereToGo(t *testing.T) {
	for _, middle := range []int{callThere, callFarThere, jumpThere, jumpFarThere} {
		m := fresh()
		m.M.SetWord(dataSeg, 0x20, paragraph(0x1234))
		do(t, m, inMemory(middle, 0x21))
		wantState(t, m, api.Stuck)
		m = fresh()
		m.R.S[api.DS] = number(dataSeg)
		do(t, m, inMemory(middle, 0x20))
		wantState(t, m, api.Stuck)
		m = fresh()
		m.R.S[api.DS] = paragraph(programPara - 1)
		do(t, m, inMemory(middle, 0))
		wantState(t, m, api.Stuck)
		m = fresh()
		m.R.G[api.BX].T = true
		do(t, m, api.Inst{Op: 0xff, Reg: middle, RM: 7})
		wantState(t, m, api.Stuck)
	}
}

// stackPointers are where the stack may be, its segment's first and last bytes among them.
var stackPointers = []uint16{0x800, 0, 1, 2, 3, 4, 5, 0x7fff, 0x8000, 0xfffb, 0xfffc, 0xfffd, 0xfffe, 0xffff}

func TestCall(t *testing.T) {
	for _, sp := range stackPointers {
		m := fresh()
		for _, ip := range from {
			for _, far := range by {
				m.R = somewhere()
				m.R.IP, m.R.G[api.SP] = ip, number(sp)
				want := m.R
				want.IP, want.G[api.SP] = ip+far, number(sp-2)
				do(t, m, short(0xe8, far))
				wantRuns(t, m, want)
				wantWord(t, m, stackSeg, sp-2, number(ip))
			}
		}
		wantKept(t, m, make([]byte, 1<<20), onStack(sp-2))
	}
}

func TestCallOfARegister(t *testing.T) {
	for n := range 8 {
		m := fresh()
		want := m.R
		want.IP, want.G[api.SP] = want.G[n].V, number(0x7fe)
		do(t, m, inRegister(callThere, n))
		// Of SP it is the word that SP was ahead of it.
		wantRuns(t, m, want)
		wantWord(t, m, stackSeg, 0x7fe, number(0x123))
		wantKept(t, m, make([]byte, 1<<20), onStack(0x7fe))
	}
}

func TestCallOfAWordInMemory(t *testing.T) {
	m := fresh()
	m.M.SetWord(dataSeg, 0xffff, number(0xbeef))
	before := kept(m)
	want := m.R
	want.IP, want.G[api.SP] = 0xbeef, number(0x7fe)
	do(t, m, inMemory(callThere, 0xffff))
	wantRuns(t, m, want)
	wantWord(t, m, stackSeg, 0x7fe, number(0x123))
	wantKept(t, m, before, onStack(0x7fe))
}

// What a call pushes may lie where it is told where to go: that is read ahead.
func TestCallOfAWordBelowTheStack(t *testing.T) {
	m := fresh()
	m.M.SetWord(stackSeg, 0x7fe, number(0xbeef))
	i := inMemory(callThere, 0x7fe)
	i.Seg = 1 + api.SS
	want := m.R
	want.IP, want.G[api.SP] = 0xbeef, number(0x7fe)
	do(t, m, i)
	wantRuns(t, m, want)
	wantWord(t, m, stackSeg, 0x7fe, number(0x123))
}

func TestReturn(t *testing.T) {
	for _, sp := range stackPointers {
		m := fresh()
		m.M.SetWord(stackSeg, sp, number(0xbeef))
		before := kept(m)
		for _, bytes := range []uint16{0, 1, 2, 3, 4, 0x10, 0x7fff, 0x8000, 0xfffd, 0xfffe, 0xffff} {
			m.R = somewhere()
			m.R.G[api.SP] = number(sp)
			want := m.R
			want.IP, want.G[api.SP] = 0xbeef, number(sp+2+bytes)
			do(t, m, short(0xc2, bytes))
			wantRuns(t, m, want)
		}
		m.R = somewhere()
		m.R.G[api.SP] = number(sp)
		want := m.R
		want.IP, want.G[api.SP] = 0xbeef, number(sp+2)
		do(t, m, short(0xc3, 0))
		wantRuns(t, m, want)
		wantKept(t, m, before)
	}
}

func TestCallAndReturn(t *testing.T) {
	for _, sp := range stackPointers {
		for _, i := range []api.Inst{short(0xe8, 0x40), short(0xe8, 0xffc0), inRegister(callThere, api.AX), inMemory(callThere, 0x30)} {
			m := fresh()
			m.R.G[api.SP] = number(sp)
			want := m.R
			do(t, m, i)
			do(t, m, short(0xc3, 0))
			wantRuns(t, m, want)
			do(t, m, i)
			do(t, m, short(0xc2, 6))
			want.G[api.SP].V += 6
			wantRuns(t, m, want)
		}
	}
}

func TestReturnIsStuck(t *testing.T) {
	for _, i := range []api.Inst{short(0xc2, 2), short(0xc3, 0)} {
		m := fresh()
		m.M.SetWord(stackSeg, 0x800, paragraph(0x1234))
		do(t, m, i)
		wantState(t, m, api.Stuck)
	}
	m := fresh()
	Do(m, short(0xc2, 2), row(t, short(0xc2, 2)), paragraph(2), number(0))
	wantState(t, m, api.Stuck)
}

// counts are what CX may be.
var counts = []uint16{0, 1, 2, 3, 0x100, 0x101, 0x7fff, 0x8000, 0xffff}

func TestLoop(t *testing.T) {
	loops := []struct {
		op            byte
		with, without bool
	}{
		{0xe0, false, true}, {0xe1, true, false}, {0xe2, true, true},
	}
	memory := mem.New()
	for _, l := range loops {
		for _, cx := range counts {
			for _, far := range by {
				for f := range uint16(1 << 12) {
					// Each flag alone, and with Z; all; none.
					f &= api.Flags
					if one := f &^ api.FlagZ; one&(one-1) != 0 && f != api.Flags && f != api.Flags&^api.FlagZ {
						continue
					}
					m := over(memory)
					m.R.G[api.CX], m.R.F = number(cx), f
					want := m.R
					want.G[api.CX] = number(cx - 1)
					may := l.without
					if f&api.FlagZ != 0 {
						may = l.with
					}
					if cx != 1 && may {
						want.IP += far
					}
					do(t, m, short(l.op, far))
					wantRuns(t, m, want)
				}
			}
		}
	}
	wantKept(t, over(memory), make([]byte, 1<<20))
}

func TestLoopByHand(t *testing.T) {
	cases := []struct {
		op       byte
		cx, left uint16
		z, goes  bool
	}{
		{0xe2, 2, 1, false, true}, {0xe2, 2, 1, true, true}, {0xe2, 1, 0, false, false}, {0xe2, 1, 0, true, false},
		{0xe2, 0, 0xffff, false, true}, {0xe2, 0xffff, 0xfffe, true, true},
		{0xe1, 2, 1, false, false}, {0xe1, 2, 1, true, true}, {0xe1, 1, 0, true, false}, {0xe1, 1, 0, false, false},
		{0xe1, 0, 0xffff, true, true}, {0xe1, 0, 0xffff, false, false}, {0xe1, 0xffff, 0xfffe, true, true},
		{0xe0, 2, 1, false, true}, {0xe0, 2, 1, true, false}, {0xe0, 1, 0, false, false}, {0xe0, 1, 0, true, false},
		{0xe0, 0, 0xffff, false, true}, {0xe0, 0, 0xffff, true, false}, {0xe0, 0xffff, 0xfffe, false, true},
		{0xe3, 0, 0, false, true}, {0xe3, 0, 0, true, true}, {0xe3, 1, 1, false, false}, {0xe3, 2, 2, true, false},
		{0xe3, 0xffff, 0xffff, false, false}, {0xe3, 0x100, 0x100, true, false},
	}
	memory := mem.New()
	for _, c := range cases {
		m := over(memory)
		m.R.G[api.CX], m.R.IP, m.R.F = number(c.cx), 0xfffc, 0
		if c.z {
			m.R.F = api.FlagZ
		}
		want := m.R
		want.G[api.CX] = number(c.left)
		if c.goes {
			want.IP = 6
		}
		do(t, m, short(c.op, 10))
		wantRuns(t, m, want)
	}
}

func TestJumpWhereCXIsNought(t *testing.T) {
	memory := mem.New()
	for _, cx := range counts {
		for _, far := range by {
			for _, f := range []uint16{0, api.FlagZ, api.Flags &^ api.FlagZ, api.Flags} {
				m := over(memory)
				m.R.G[api.CX], m.R.F = number(cx), f
				want := m.R
				if cx == 0 {
					want.IP += far
				}
				do(t, m, short(0xe3, far))
				wantRuns(t, m, want)
			}
		}
	}
}

func TestAParagraphDoesNotCount(t *testing.T) {
	memory := mem.New()
	for op := byte(0xe0); op <= 0xe3; op++ {
		for _, cx := range counts {
			for _, f := range []uint16{0, api.FlagZ} {
				m := over(memory)
				m.R.G[api.CX], m.R.F = paragraph(cx), f
				do(t, m, short(op, 10))
				wantState(t, m, api.Stuck)
			}
		}
	}
	// Other registers' paragraphs play no part.
	for op := byte(0xe0); op <= 0xe3; op++ {
		m := over(memory)
		for n := range m.R.G {
			m.R.G[n].T = n != api.CX
		}
		m.R.G[api.CX] = number(1)
		want := m.R
		if op < 0xe3 {
			want.G[api.CX] = number(0)
		}
		do(t, m, short(op, 10))
		wantRuns(t, m, want)
	}
}
