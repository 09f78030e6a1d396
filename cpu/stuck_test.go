package cpu

import (
	"slices"
	"testing"

	"hansom/api"
	"hansom/core"
	"hansom/flow"
	"hansom/isa"
	"hansom/mem"
)

// wantStuck does a step that lets the machine be stuck: IP is behind the instruction, and nothing else is changed, nor happened.
func wantStuck(t *testing.T, tells string, m *core.Machine, n int) {
	t.Helper()
	want, bytes, events, used := m.R, all(m), m.W.Events(), m.W.Used()
	want.IP += uint16(n)
	if !Step(m) {
		t.Fatalf("%s: it doesn't run", tells)
	}
	if m.State() != api.Stuck || m.R != want || m.W.Used() != used {
		t.Fatalf("%s: the state is %d, %d replies are used, the registers are\n%+v, want\n%+v", tells, m.State(), m.W.Used(), m.R, want)
	}
	wantBytes(t, m, bytes)
	wantEvents(t, m, events...)
	if Step(m) {
		t.Fatalf("%s: it runs on", tells)
	}
}

// stuck is an instruction of these bytes, on a machine on which this is so.
func stuck(t *testing.T, tells string, bytes []byte, set ...func(m *core.Machine)) {
	t.Helper()
	m := with(bytes...)
	for _, f := range set {
		f(m)
	}
	wantStuck(t, tells, m, len(bytes))
}

// para lets registers have paragraphs.
func para(registers ...int) func(m *core.Machine) {
	return func(m *core.Machine) {
		for _, n := range registers {
			m.R.G[n].T = true
		}
	}
}

// ofByte is the register that an operand of one byte is a half of; -1: it is none.
func ofByte(i api.Inst, op int) int {
	switch {
	case op == api.OpEb && i.Mod == 3:
		return i.RM % 4
	case op == api.OpGb:
		return i.Reg % 4
	case op == api.OpZb:
		return int(i.Op) % 4
	case op == api.OpAL:
		return api.AX
	case op == api.OpCL:
		return api.CX
	}
	return -1
}

// ofWord is the register that an operand of a word is; -1: it is none.
func ofWord(i api.Inst, op int) int {
	switch {
	case op == api.OpEv && i.Mod == 3:
		return i.RM
	case op == api.OpGv:
		return i.Reg
	case op == api.OpZv:
		return int(i.Op) % 8
	case op == api.OpAX:
		return api.AX
	case op == api.OpDX:
		return api.DX
	}
	return -1
}

// moving tells whether an instruction's words go as they are.
func moving(name int) bool {
	return slices.Contains([]int{api.MOV, api.XCHG, api.PUSH, api.POP, api.LEA, api.LES, api.LDS, api.IN, api.ESC}, name)
}

// needed is the registers that may have no paragraph, of an instruction.
func needed(i api.Inst, row api.Row) []int {
	var l []int
	if row.Mod && i.Mod != 3 && row.Name != api.ESC {
		l = append(l, [8][]int{
			{api.BX, api.SI}, {api.BX, api.DI}, {api.BP, api.SI}, {api.BP, api.DI}, {api.SI}, {api.DI}, {api.BP}, {api.BX},
		}[i.RM]...)
		if i.Mod == 0 && i.RM == 6 {
			l = nil
		}
	}
	for _, op := range [2]int{row.A, row.B} {
		l = append(l, ofByte(i, op))
		if !moving(row.Name) || op == api.OpDX {
			l = append(l, ofWord(i, op))
		}
	}
	return append(l, neededBesides(row)...)
}

// neededBesides is those that no operand tells.
func neededBesides(row api.Row) []int {
	switch row.Name {
	case api.DIV, api.IDIV:
		if row.A == api.OpEv {
			return []int{api.AX, api.DX}
		}
		return []int{api.AX}
	case api.MUL, api.IMUL, api.DAA, api.DAS, api.AAA, api.AAS, api.AAM, api.AAD, api.CBW, api.CWD, api.LAHF, api.SAHF:
		return []int{api.AX}
	case api.XLAT:
		return []int{api.AX, api.BX}
	case api.PUSH, api.POP, api.PUSHF, api.POPF:
		return []int{api.SP}
	}
	return nil
}

// Each instruction with each register having a paragraph: it is stuck just where it needs a number there, and nothing is seen of it then.
func TestRegistersWithParagraphs(t *testing.T) {
	d := drawer(99)
	memory, _ := drawnMemory(&d)
	seen := map[bool]int{}
	for range 6 {
		for _, i := range drawnInsts(&d) {
			row, _ := isa.Of(i.Op, i.Reg)
			if flow.Is(row.Name) || isa.Repeats(row.Name) > 0 {
				continue
			}
			bytes := bytesOf(t, i)
			for n := range 8 {
				m := drawnMachine(&d, memory, d.word())
				m.R.G[api.SP], m.R.S[api.SS] = number(0x8000), paragraph(stackSeg)
				m.R.G[n].T = true
				_, off := modelOf(m, memory, 0).place(i)
				isStuck := slices.Contains(needed(i, row), n)
				if !isStuck && (off == 0xffff || i.Imm == 0xffff) {
					// A paragraph may not be laid there.
					continue
				}
				lay(m, m.R.IP, bytes)
				want := m.R
				want.IP += uint16(len(bytes))
				Step(m)
				seen[isStuck]++
				if (m.State() == api.Stuck) != isStuck {
					t.Fatalf("%+v, register %d: the state is %d", i, n, m.State())
				}
				if isStuck && (m.R != want || len(m.W.Events()) > 0 || m.W.Used() > 0) {
					t.Fatalf("%+v, register %d: the registers are\n%+v, want\n%+v; the events are %+v", i, n, m.R, want, m.W.Events())
				}
				plainAgain(m, off, i.Imm)
			}
		}
	}
	if seen[true] < 1000 || seen[false] < 1000 {
		t.Errorf("seen are %v", seen)
	}
}

// plainAgain lets what may have been written be plain, at these offsets of each segment and at the stack's end: the next ones are to come upon numbers.
func plainAgain(m *core.Machine, offsets ...uint16) {
	for _, seg := range []uint16{codeSeg, dataSeg, extraSeg, stackSeg} {
		for _, off := range append(offsets, 0x7ffe) {
			for k := range uint16(2) {
				b, _ := m.M.Byte(seg, off+k)
				m.M.SetByte(seg, off+k, b)
			}
		}
	}
}

// Segments that are no paragraphs, or elsewhere: what is there is not the program's.
func TestSegmentsElsewhere(t *testing.T) {
	for _, seg := range []api.Val{number(dataSeg), paragraph(0x0100), paragraph(0x5000)} {
		here := func(n int) func(m *core.Machine) {
			return func(m *core.Machine) { m.R.S[n] = seg }
		}
		cases := []struct {
			tells string
			code  []byte
			seg   int
		}{
			{"MOV AX,[1234]", []byte{0xa1, 0x34, 0x12}, api.DS}, {"MOV [1234],AL", []byte{0xa2, 0x34, 0x12}, api.DS},
			{"MOV ES:[1234],AX", []byte{0x26, 0xa3, 0x34, 0x12}, api.ES}, {"ADD [SI],AX", []byte{0x01, 4}, api.DS},
			{"CMP BYTE [SI],1", []byte{0x80, 0x3c, 1}, api.DS}, {"INC WORD [BP+0]", []byte{0xff, 0x46, 0}, api.SS},
			{"XCHG [BP+SI],AL", []byte{0x86, 2}, api.SS}, {"LES AX,[SI]", []byte{0xc4, 4}, api.DS}, {"LDS AX,[SI]", []byte{0xc5, 4}, api.DS},
			{"XLAT", []byte{0xd7}, api.DS}, {"XLAT of ES", []byte{0x26, 0xd7}, api.ES}, {"PUSH AX", []byte{0x50}, api.SS}, {"POP AX", []byte{0x58}, api.SS},
			{"PUSHF", []byte{0x9c}, api.SS}, {"POPF", []byte{0x9d}, api.SS}, {"PUSH [SI]", []byte{0xff, 0x34}, api.DS}, {"POP [SI]", []byte{0x8f, 4}, api.DS},
			{"MUL WORD [SI]", []byte{0xf7, 0x24}, api.DS}, {"DIV WORD [SI]", []byte{0xf7, 0x34}, api.DS}, {"IDIV BYTE [SI]", []byte{0xf6, 0x3c}, api.DS},
			{"SHL WORD [SI],1", []byte{0xd1, 0x24}, api.DS}, {"MOV ES,[SI]", []byte{0x8e, 4}, api.DS}, {"MOV [SI],ES", []byte{0x8c, 4}, api.DS},
			{"MOVSB", []byte{0xa4}, api.DS}, {"STOSW", []byte{0xab}, api.ES}, {"CALL 5 on", []byte{0xe8, 5, 0}, api.SS}, {"RET", []byte{0xc3}, api.SS},
			{"JMP [SI]", []byte{0xff, 0x24}, api.DS},
		}
		for _, c := range cases {
			stuck(t, c.tells, c.code, here(c.seg))
		}
		tryAll(t, []one{
			{"ESC [SI]", []byte{0xd8, 4}, here(api.DS), nil},
			{"LEA AX,[SI]", []byte{0x8d, 4}, here(api.DS), g(api.AX, 0x0c00)},
			{"MOV AX,BX", []byte{0x89, 0xd8}, here(api.DS), g(api.AX, 0x7788)},
		})
	}
}

// The second word of LES and LDS is to be the program's, too.
func TestLoadFarAtTheProgramsEnd(t *testing.T) {
	for _, op := range []byte{0xc4, 0xc5} {
		for left := range 4 {
			m := with(op, 0x07)
			m.R.S[api.DS], m.R.G[api.BX] = paragraph(stackSeg), number(uint16(0x10000-left))
			m.R.S[api.DS].V += 0x0100
			m.R.G[api.BX].V -= 0x1000
			if left == 0 {
				m.R.G[api.BX].V = 0xf000
			}
			wantStuck(t, "a far word over the end", m, 2)
		}
		m := with(op, 0x07)
		m.R.S[api.DS], m.R.G[api.BX] = paragraph(stackSeg+0x0100), number(0xeffc)
		if !Step(m) || m.State() != api.Runs {
			t.Errorf("just ahead of the end the state is %d", m.State())
		}
	}
}

// Words of memory that are paragraphs, or halves of ones.
func TestParagraphsInMemory(t *testing.T) {
	lays := word(0x10, paragraph(0x4321))
	small := ahead(g(api.DX, 0))
	for _, c := range []struct {
		tells string
		code  []byte
	}{
		{"MOV AL,[10]", []byte{0xa0, 0x10, 0}}, {"MOV AL,[11]", []byte{0xa0, 0x11, 0}}, {"MOV AX,[F]", []byte{0xa1, 0x0f, 0}},
		{"MOV AX,[11]", []byte{0xa1, 0x11, 0}}, {"MOV [11],AL", []byte{0xa2, 0x11, 0}}, {"MOV [F],AX", []byte{0xa3, 0x0f, 0}},
		{"ADD AX,[10]", []byte{0x03, 0x06, 0x10, 0}}, {"ADD [10],AX", []byte{0x01, 0x06, 0x10, 0}}, {"CMP AX,[10]", []byte{0x3b, 0x06, 0x10, 0}},
		{"TEST [10],AX", []byte{0x85, 0x06, 0x10, 0}}, {"AND WORD [10],0", []byte{0x81, 0x26, 0x10, 0, 0, 0}}, {"INC WORD [10]", []byte{0xff, 0x06, 0x10, 0}},
		{"NOT WORD [10]", []byte{0xf7, 0x16, 0x10, 0}}, {"NEG BYTE [10]", []byte{0xf6, 0x1e, 0x10, 0}}, {"SHL WORD [10],1", []byte{0xd1, 0x26, 0x10, 0}},
		{"SHR WORD [10],CL", []byte{0xd3, 0x2e, 0x10, 0}}, {"MUL WORD [10]", []byte{0xf7, 0x26, 0x10, 0}}, {"DIV WORD [10]", []byte{0xf7, 0x36, 0x10, 0}},
		{"XCHG [10],AL", []byte{0x86, 0x06, 0x10, 0}}, {"LES AX,[F]", []byte{0xc4, 0x06, 0x0f, 0}}, {"LES AX,[11]", []byte{0xc4, 0x06, 0x11, 0}},
		{"LDS AX,[D]", []byte{0xc5, 0x06, 0x0d, 0}}, {"PUSH [F]", []byte{0xff, 0x36, 0x0f, 0}}, {"POP [11]", []byte{0x8f, 0x06, 0x11, 0}},
	} {
		stuck(t, c.tells, c.code, lays, small)
	}
	bx := ahead(g(api.BX, 0))
	stuck(t, "XLAT", []byte{0xd7}, lays, bx, ahead(g(api.AX, 0x10)))
	stuck(t, "POPF", []byte{0x9d}, onStack(paragraph(0xf002)))
	tryAll(t, []one{
		{"MOV AX,[10]", []byte{0xa1, 0x10, 0}, lays, func(r *api.Regs) { r.G[api.AX] = paragraph(0x4321) }},
		{"LES AX,[E]", []byte{0xc4, 0x06, 0x0e, 0}, lays, func(r *api.Regs) { r.G[api.AX], r.S[api.ES] = number(0), paragraph(0x4321) }},
	})
	wantWord(t, one{tells: "MOV [10],AX", code: []byte{0xa3, 0x10, 0}, set: lays}.try(t), dataSeg, 0x10, number(0x1122))
	x := one{"XCHG [10],BX", []byte{0x87, 0x1e, 0x10, 0}, lays, func(r *api.Regs) { r.G[api.BX] = paragraph(0x4321) }}
	wantWord(t, x.try(t), dataSeg, 0x10, number(0x7788))
}

// What stands behind an instruction as a paragraph's word goes whole, and isn't reckoned with.
func TestParagraphsBehind(t *testing.T) {
	behind := func(at uint16) func(m *core.Machine) {
		return func(m *core.Machine) { m.M.SetWord(codeSeg, firstIP+at, paragraph(0x4321)) }
	}
	tryAll(t, []one{
		{"MOV AX,SEG X", []byte{0xb8, 0, 0}, behind(1), func(r *api.Regs) { r.G[api.AX] = paragraph(0x4321) }},
		{"MOV SI,SEG X, by the second byte", []byte{0xc7, 0xc6, 0, 0}, behind(2), func(r *api.Regs) { r.G[api.SI] = paragraph(0x4321) }},
		{"JMPF SEG X:1234", []byte{0xea, 0x34, 0x12, 0, 0}, behind(3), func(r *api.Regs) { r.S[api.CS], r.IP = paragraph(0x4321), 0x1234 }},
	})
	x := one{tells: "MOV WORD [10],SEG X", code: []byte{0xc7, 0x06, 0x10, 0, 0, 0}, set: behind(4)}
	wantWord(t, x.try(t), dataSeg, 0x10, paragraph(0x4321))
	x = one{"CALLF SEG X:1234", []byte{0x9a, 0x34, 0x12, 0, 0}, behind(3), func(r *api.Regs) {
		r.S[api.CS], r.IP, r.G[api.SP] = paragraph(0x4321), 0x1234, number(0x07fc)
	}}
	wantWord(t, x.try(t), stackSeg, 0x07fe, paragraph(codeSeg))
	stuck(t, "ADD AX,SEG X", []byte{0x05, 0, 0}, behind(1))
	stuck(t, "CMP AX,SEG X", []byte{0x3d, 0, 0}, behind(1))
	stuck(t, "TEST BX,SEG X", []byte{0xf7, 0xc3, 0, 0}, behind(2))
	stuck(t, "SUB WORD [10],SEG X", []byte{0x81, 0x2e, 0x10, 0, 0, 0}, behind(4))
	stuck(t, "RET SEG X", []byte{0xc2, 0, 0}, behind(1))
	stuck(t, "MOV WORD [FFFF],SEG X", []byte{0xc7, 0x06, 0xff, 0xff, 0, 0}, behind(4))
}

// Paragraphs go from register to register, and to memory, but for the last offset.
func TestParagraphsThatMove(t *testing.T) {
	tryAll(t, []one{
		{"MOV AX,BX", []byte{0x89, 0xd8}, para(api.BX), func(r *api.Regs) { r.G[api.AX] = paragraph(0x7788) }},
		{"MOV BX,AX", []byte{0x89, 0xc3}, para(api.BX), g(api.BX, 0x1122)},
		{"MOV DS,BX", []byte{0x8e, 0xdb}, para(api.BX), func(r *api.Regs) { r.S[api.DS] = paragraph(0x7788) }},
		{"XCHG AX,BX", []byte{0x93}, para(api.BX), both(g(api.BX, 0x1122), func(r *api.Regs) { r.G[api.AX] = paragraph(0x7788) })},
		{"XCHG BX,BX", []byte{0x87, 0xdb}, para(api.BX), nil},
		{"LEA BX,[SI]", []byte{0x8d, 0x1c}, para(api.BX), g(api.BX, 0x0c00)},
		{"MOV BX,5", []byte{0xbb, 5, 0}, para(api.BX), g(api.BX, 5)},
		{"CWD over DX", []byte{0x99}, para(api.DX), g(api.DX, 0)},
		{"MUL CX over DX", []byte{0xf7, 0xe1}, func(m *core.Machine) {
			para(api.DX)(m)
			ahead(g(api.AX, 3), g(api.CX, 4))(m)
		}, both(g(api.AX, 12), g(api.DX, 0))},
	})
	wantWord(t, one{"PUSH BX", []byte{0x53}, para(api.BX), g(api.SP, 0x07fe)}.try(t), stackSeg, 0x07fe, paragraph(0x7788))
	wantWord(t, one{"MOV [FFFE],BX", []byte{0x89, 0x1e, 0xfe, 0xff}, para(api.BX), nil}.try(t), dataSeg, 0xfffe, paragraph(0x7788))
	stuck(t, "MOV [FFFF],BX", []byte{0x89, 0x1e, 0xff, 0xff}, para(api.BX))
	stuck(t, "XCHG [FFFF],BX", []byte{0x87, 0x1e, 0xff, 0xff}, para(api.BX))
	stuck(t, "MOV [FFFF],DS", []byte{0x8c, 0x1e, 0xff, 0xff})
	stuck(t, "PUSH DS", []byte{0x1e}, ahead(g(api.SP, 1)))
	stuck(t, "POP [FFFF]", []byte{0x8f, 0x06, 0xff, 0xff}, onStack(paragraph(0x1234)))
	stuck(t, "PUSH SP", []byte{0x54}, para(api.SP))
	stuck(t, "SUB BX,BX", []byte{0x29, 0xdb}, para(api.BX))
	stuck(t, "XOR BX,BX", []byte{0x31, 0xdb}, para(api.BX))
}

// Ports and numbers that are paragraphs, or would be taken apart: nothing happens in the world.
func TestPortsWithParagraphs(t *testing.T) {
	for _, c := range []struct {
		tells string
		code  byte
		set   func(m *core.Machine)
	}{
		{"IN AL,DX", 0xec, para(api.DX)}, {"IN AX,DX", 0xed, para(api.DX)}, {"OUT DX,AL", 0xee, para(api.DX)}, {"OUT DX,AX", 0xef, para(api.DX)},
		{"OUT DX,AL of AX", 0xee, para(api.AX)}, {"OUT DX,AX of AX", 0xef, para(api.AX)}, {"IN AL,DX into AX", 0xec, para(api.AX)},
		{"OUT DX,AX of both", 0xef, para(api.AX, api.DX)},
	} {
		m := over(mem.New(), 0x9abc)
		lay(m, firstIP, []byte{c.code})
		c.set(m)
		wantStuck(t, c.tells, m, 1)
	}
	m := over(mem.New(), 0x9abc)
	lay(m, firstIP, []byte{0xed})
	para(api.AX)(m)
	Step(m)
	wantState(t, m, api.Runs)
	if m.R.G[api.AX] != number(0x9abc) {
		t.Errorf("AX is %v", m.R.G[api.AX])
	}
}

// A division that can't be, with a paragraph besides, is stuck: it is no fault.
func TestDivisionsOfParagraphs(t *testing.T) {
	for _, n := range []int{api.AX, api.CX, api.DX} {
		zero := ahead(g(api.CX, 0))
		stuck(t, "DIV CX", []byte{0xf7, 0xf1}, zero, para(n))
		stuck(t, "IDIV CX", []byte{0xf7, 0xf9}, zero, para(n))
		if n != api.DX {
			stuck(t, "DIV CL", []byte{0xf6, 0xf1}, zero, para(n))
		}
	}
}

// What goes elsewhere, and texts, on the way.
func TestOthersThatAreStuck(t *testing.T) {
	stuck(t, "JMP BX", []byte{0xff, 0xe3}, para(api.BX))
	stuck(t, "LOOP", []byte{0xe2, 5}, para(api.CX))
	stuck(t, "INT 33", []byte{0xcd, 33}, para(api.DX))
	stuck(t, "REP MOVSB", []byte{0xf3, 0xa4}, para(api.CX))
	stuck(t, "REP STOSB", []byte{0xf3, 0xaa}, para(api.AX))
	stuck(t, "LODSW", []byte{0xad}, para(api.SI))
}

// The third example of the whole: a paragraph is no number.
func TestParagraphIsNoNumber(t *testing.T) {
	m := with(0xb8, 0, 0, 0x05, 1, 0, 0xf4)
	m.M.SetWord(codeSeg, firstIP+1, paragraph(dataSeg))
	if n := Run(m, 100); n != 2 {
		t.Errorf("%d steps", n)
	}
	wantState(t, m, api.Stuck)
	wantEvents(t, m)
	if Run(m, 100) != 0 {
		t.Error("it runs on")
	}
}
