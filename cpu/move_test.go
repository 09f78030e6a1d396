package cpu

import (
	"testing"

	"hansom/api"
	"hansom/core"
)

// g lets a register have a number.
func g(n int, v uint16) func(r *api.Regs) { return func(r *api.Regs) { r.G[n] = number(v) } }

// both is one thing and another.
func both(l ...func(r *api.Regs)) func(r *api.Regs) {
	return func(r *api.Regs) {
		for _, f := range l {
			f(r)
		}
	}
}

// f lets the flags be these.
func f(flags uint16) func(r *api.Regs) { return func(r *api.Regs) { r.F = flags } }

// ahead lets the registers be so ahead of an instruction.
func ahead(l ...func(r *api.Regs)) func(m *core.Machine) {
	return func(m *core.Machine) { both(l...)(&m.R) }
}

// word lets a word of the data segment be a value.
func word(off uint16, v api.Val) func(m *core.Machine) {
	return func(m *core.Machine) { m.M.SetWord(dataSeg, off, v) }
}

func TestMoves(t *testing.T) {
	tryAll(t, []one{
		{"MOV AX,1234", []byte{0xb8, 0x34, 0x12}, nil, g(api.AX, 0x1234)},
		{"MOV DI,FFFF", []byte{0xbf, 0xff, 0xff}, nil, g(api.DI, 0xffff)},
		{"MOV AL,5", []byte{0xb0, 5}, nil, g(api.AX, 0x1105)},
		{"MOV BH,5", []byte{0xb7, 5}, nil, g(api.BX, 0x0588)},
		{"MOV DX,BX", []byte{0x89, 0xda}, nil, g(api.DX, 0x7788)},
		{"MOV BX,DX", []byte{0x8b, 0xda}, nil, g(api.BX, 0x5566)},
		{"MOV AH,CL", []byte{0x88, 0xcc}, nil, g(api.AX, 0x4422)},
		{"MOV CL,AH", []byte{0x8a, 0xcc}, nil, g(api.CX, 0x3311)},
		{"MOV AX,[1234]", []byte{0xa1, 0x34, 0x12}, word(0x1234, number(0x9abc)), g(api.AX, 0x9abc)},
		{"MOV AL,[1234]", []byte{0xa0, 0x34, 0x12}, word(0x1234, number(0x9abc)), g(api.AX, 0x11bc)},
		{"MOV CX,[SI+4]", []byte{0x8b, 0x4c, 4}, word(0x0c04, number(0x9abc)), g(api.CX, 0x9abc)},
		{"MOV AX,DS", []byte{0x8c, 0xd8}, nil, func(r *api.Regs) { r.G[api.AX] = paragraph(dataSeg) }},
		{"MOV ES,DX", []byte{0x8e, 0xc2}, nil, func(r *api.Regs) { r.S[api.ES] = number(0x5566) }},
		{"MOV SS,[10]", []byte{0x8e, 0x16, 0x10, 0}, word(0x10, paragraph(0x3000)), func(r *api.Regs) { r.S[api.SS] = paragraph(0x3000) }},
		{"XCHG AX,BX", []byte{0x93}, nil, both(g(api.AX, 0x7788), g(api.BX, 0x1122))},
		{"XCHG AX,AX", []byte{0x90}, nil, nil},
		{"XCHG DX,SI", []byte{0x87, 0xd6}, nil, both(g(api.DX, 0x0c00), g(api.SI, 0x5566))},
		{"XCHG SI,SI", []byte{0x87, 0xf6}, nil, nil},
		{"XCHG AL,AH", []byte{0x86, 0xc4}, nil, g(api.AX, 0x2211)},
		{"XCHG BL,BL", []byte{0x86, 0xdb}, nil, nil},
		{"LEA AX,[BX+SI-1]", []byte{0x8d, 0x40, 0xff}, nil, g(api.AX, 0x8387)},
		{"LEA SI,[SI+8000]", []byte{0x8d, 0xb4, 0, 0x80}, nil, g(api.SI, 0x8c00)},
		{"LEA BP,[1234]", []byte{0x8d, 0x2e, 0x34, 0x12}, nil, g(api.BP, 0x1234)},
		{"LEA AX,[BX] with segments that are none", []byte{0x8d, 7}, ahead(func(r *api.Regs) { r.S[api.DS] = number(0) }), g(api.AX, 0x7788)},
		{"CBW", []byte{0x98}, nil, g(api.AX, 0x0022)},
		{"CBW of 7F", []byte{0x98}, ahead(g(api.AX, 0x817f)), g(api.AX, 0x007f)},
		{"CBW of 80", []byte{0x98}, ahead(g(api.AX, 0x0180)), g(api.AX, 0xff80)},
		{"CWD", []byte{0x99}, nil, g(api.DX, 0)},
		{"CWD of 7FFF", []byte{0x99}, ahead(g(api.AX, 0x7fff)), g(api.DX, 0)},
		{"CWD of 8000", []byte{0x99}, ahead(g(api.AX, 0x8000)), g(api.DX, 0xffff)},
		{"WAIT", []byte{0x9b}, nil, nil},
		{"ESC AX", []byte{0xd8, 0xc0}, nil, nil},
		{"LOCK XCHG AX,BX", []byte{0xf0, 0x93}, nil, both(g(api.AX, 0x7788), g(api.BX, 0x1122))},
	})
}

func TestMovesToMemory(t *testing.T) {
	cases := []struct {
		one
		seg, off uint16
		want     api.Val
	}{
		{one{tells: "MOV [1234],AX", code: []byte{0xa3, 0x34, 0x12}}, dataSeg, 0x1234, number(0x1122)},
		{one{tells: "MOV ES:[1234],AL", code: []byte{0x26, 0xa2, 0x34, 0x12}}, extraSeg, 0x1234, number(0x22)},
		{one{tells: "MOV [BP+2],CX", code: []byte{0x89, 0x4e, 2}}, stackSeg, 0x0a02, number(0x3344)},
		{one{tells: "MOV DS:[BP+2],CH", code: []byte{0x3e, 0x88, 0x6e, 2}}, dataSeg, 0x0a02, number(0x33)},
		{one{tells: "MOV [DI],ES", code: []byte{0x8c, 5}}, dataSeg, 0x0e00, paragraph(extraSeg)},
		{one{tells: "MOV [FFFF],CX", code: []byte{0x89, 0x0e, 0xff, 0xff}}, dataSeg, 0xffff, number(0x3344)},
		{one{tells: "MOV WORD [SI],1234", code: []byte{0xc7, 4, 0x34, 0x12}}, dataSeg, 0x0c00, number(0x1234)},
		{one{tells: "MOV BYTE [SI],12", code: []byte{0xc6, 4, 0x12}}, dataSeg, 0x0c00, number(0x12)},
		{one{"XCHG [10],DX", []byte{0x87, 0x16, 0x10, 0}, word(0x10, number(0x9abc)), g(api.DX, 0x9abc)}, dataSeg, 0x10, number(0x5566)},
		{one{"XCHG [10],DL", []byte{0x86, 0x16, 0x10, 0}, word(0x10, number(0x9abc)), g(api.DX, 0x55bc)}, dataSeg, 0x10, number(0x9a66)},
		{one{"XCHG [BX],BX", []byte{0x87, 0x1f}, word(0x7788, number(0x9abc)), g(api.BX, 0x9abc)}, dataSeg, 0x7788, number(0x7788)},
		{one{"XCHG [BX],BH", []byte{0x86, 0x3f}, word(0x7788, number(0x9abc)), g(api.BX, 0xbc88)}, dataSeg, 0x7788, number(0x9a77)},
	}
	for _, c := range cases {
		wantWord(t, c.try(t), c.seg, c.off, c.want)
	}
}

// What stands at BX and AL, in DS or as a prefix tells: offsets come round.
func TestTranslate(t *testing.T) {
	cases := []struct {
		code   []byte
		bx, ax uint16
		seg    uint16
		off    uint16
	}{
		{[]byte{0xd7}, 0x100, 0x0005, dataSeg, 0x105},
		{[]byte{0xd7}, 0x100, 0x12ff, dataSeg, 0x1ff},
		{[]byte{0xd7}, 0xffff, 0xff02, dataSeg, 0x0001},
		{[]byte{0x26, 0xd7}, 0x100, 5, extraSeg, 0x105},
		{[]byte{0x2e, 0xd7}, 0x100, 5, codeSeg, 0x105},
		{[]byte{0x36, 0xd7}, 0x100, 5, stackSeg, 0x105},
		{[]byte{0x3e, 0xd7}, 0x100, 5, dataSeg, 0x105},
	}
	for _, c := range cases {
		set := func(m *core.Machine) {
			ahead(g(api.BX, c.bx), g(api.AX, c.ax))(m)
			m.M.SetByte(c.seg, c.off, 0x9a)
		}
		one{"XLAT", c.code, set, g(api.AX, c.ax&0xff00|0x9a)}.try(t)
	}
}

// LES and LDS: a word, and the next one, whose offset comes round.
func TestLoadFar(t *testing.T) {
	for _, off := range []uint16{0, 0x10, 0x11, 0xfffd, 0xfffe, 0xffff} {
		for _, seg := range []api.Val{number(0x4321), paragraph(0x4321)} {
			for _, v := range []api.Val{number(0x1234), paragraph(0x1234)} {
				lays := func(m *core.Machine) {
					m.M.SetWord(dataSeg, off, v)
					m.M.SetWord(dataSeg, off+2, seg)
					m.R.G[api.BX] = number(off)
				}
				one{"LES DX,[BX]", []byte{0xc4, 0x17}, lays, func(r *api.Regs) { r.G[api.DX], r.S[api.ES] = v, seg }}.try(t)
				one{"LDS DX,[BX]", []byte{0xc5, 0x17}, lays, func(r *api.Regs) { r.G[api.DX], r.S[api.DS] = v, seg }}.try(t)
				one{"LES BX,[BX]", []byte{0xc4, 0x1f}, lays, func(r *api.Regs) { r.G[api.BX], r.S[api.ES] = v, seg }}.try(t)
			}
		}
	}
	set := func(m *core.Machine) {
		m.M.SetWord(extraSeg, 0x0c07, number(0x1234))
		m.M.SetWord(extraSeg, 0x0c09, paragraph(0x4321))
	}
	one{"LES SI,ES:[SI+7]", []byte{0x26, 0xc4, 0x74, 7}, set, both(g(api.SI, 0x1234), func(r *api.Regs) { r.S[api.ES] = paragraph(0x4321) })}.try(t)
}

func TestPush(t *testing.T) {
	cases := []struct {
		one
		want api.Val
	}{
		{one{tells: "PUSH AX", code: []byte{0x50}}, number(0x1122)},
		{one{tells: "PUSH DI", code: []byte{0x57}}, number(0x0e00)},
		{one{tells: "PUSH SP", code: []byte{0x54}}, number(0x07fe)},
		{one{tells: "PUSH SP, by the second byte", code: []byte{0xff, 0xf4}}, number(0x07fe)},
		{one{tells: "PUSH BP, by the second byte", code: []byte{0xff, 0xf5}}, number(0x0a00)},
		{one{tells: "PUSH [SI]", code: []byte{0xff, 0x34}, set: word(0x0c00, number(0x9abc))}, number(0x9abc)},
		{one{tells: "PUSH [SI+1]", code: []byte{0xff, 0x74, 1}, set: word(0x0c01, paragraph(0x9abc))}, paragraph(0x9abc)},
		{one{tells: "PUSH ES", code: []byte{0x06}}, paragraph(extraSeg)},
		{one{tells: "PUSH CS", code: []byte{0x0e}}, paragraph(codeSeg)},
		{one{tells: "PUSH SS", code: []byte{0x16}}, paragraph(stackSeg)},
		{one{tells: "PUSH DS", code: []byte{0x1e}}, paragraph(dataSeg)},
		{one{tells: "PUSHF", code: []byte{0x9c}}, number(0xf002)},
		{one{tells: "PUSHF with all", code: []byte{0x9c}, set: ahead(f(api.Flags))}, number(0xffd7)},
		{one{tells: "PUSHF with C and O", code: []byte{0x9c}, set: ahead(f(api.FlagC | api.FlagO))}, number(0xf803)},
	}
	for _, c := range cases {
		c.then = g(api.SP, 0x07fe)
		wantWord(t, c.try(t), stackSeg, 0x07fe, c.want)
	}
}

// SP comes round.
func TestPushAtTheStacksEnd(t *testing.T) {
	for _, sp := range []uint16{0, 1, 2, 0xffff} {
		c := one{"PUSH SP", []byte{0x54}, ahead(g(api.SP, sp)), g(api.SP, sp-2)}
		wantWord(t, c.try(t), stackSeg, sp-2, number(sp-2))
		c = one{"PUSHF", []byte{0x9c}, ahead(g(api.SP, sp)), g(api.SP, sp-2)}
		wantWord(t, c.try(t), stackSeg, sp-2, number(0xf002))
	}
}

// onStack lets a word be the stack's last one.
func onStack(v api.Val) func(m *core.Machine) {
	return func(m *core.Machine) { m.M.SetWord(stackSeg, m.R.G[api.SP].V, v) }
}

func TestPop(t *testing.T) {
	const behind = 0x0802
	for _, v := range []api.Val{number(0x9abc), paragraph(0x9abc)} {
		set := onStack(v)
		reg := func(n int) func(r *api.Regs) {
			return both(g(api.SP, behind), func(r *api.Regs) { r.G[n] = v })
		}
		seg := func(n int) func(r *api.Regs) {
			return both(g(api.SP, behind), func(r *api.Regs) { r.S[n] = v })
		}
		tryAll(t, []one{
			{"POP AX", []byte{0x58}, set, reg(api.AX)},
			{"POP DI", []byte{0x5f}, set, reg(api.DI)},
			{"POP SP", []byte{0x5c}, set, reg(api.SP)},
			{"POP SP, by the second byte", []byte{0x8f, 0xc4}, set, reg(api.SP)},
			{"POP ES", []byte{0x07}, set, seg(api.ES)},
			{"POP SS", []byte{0x17}, set, seg(api.SS)},
			{"POP DS", []byte{0x1f}, set, seg(api.DS)},
		})
		wantWord(t, one{"POP [SI]", []byte{0x8f, 4}, set, g(api.SP, behind)}.try(t), dataSeg, 0x0c00, v)
	}
}

func TestPopFlags(t *testing.T) {
	for _, v := range []uint16{0, 0xffff, 0xf002, 1, 0x0fd5, 0xf02a, 0x0800} {
		for _, was := range []uint16{0, api.Flags} {
			set := func(m *core.Machine) {
				onStack(number(v))(m)
				m.R.F = was
			}
			one{"POPF", []byte{0x9d}, set, both(g(api.SP, 0x0802), f(v&0x0fd5))}.try(t)
		}
	}
}

// Each flag by itself, and all others as they were.
func TestFlagChanges(t *testing.T) {
	for _, was := range []uint16{0, api.Flags, api.FlagsSum, api.FlagC | api.FlagI, api.FlagD | api.FlagZ, api.Flags &^ api.FlagC} {
		tryAll(t, []one{
			{"CLC", []byte{0xf8}, ahead(f(was)), f(was &^ api.FlagC)},
			{"STC", []byte{0xf9}, ahead(f(was)), f(was | api.FlagC)},
			{"CMC", []byte{0xf5}, ahead(f(was)), f(was ^ api.FlagC)},
			{"CLI", []byte{0xfa}, ahead(f(was)), f(was &^ api.FlagI)},
			{"STI", []byte{0xfb}, ahead(f(was)), f(was | api.FlagI)},
			{"CLD", []byte{0xfc}, ahead(f(was)), f(was &^ api.FlagD)},
			{"STD", []byte{0xfd}, ahead(f(was)), f(was | api.FlagD)},
			{"WAIT", []byte{0x9b}, ahead(f(was)), f(was)},
			{"MOV AX,BX", []byte{0x89, 0xd8}, ahead(f(was)), both(f(was), g(api.AX, 0x7788))},
			{"CBW", []byte{0x98}, ahead(f(was)), both(f(was), g(api.AX, 0x22))},
			{"LAHF", []byte{0x9f}, ahead(f(was)), both(f(was), g(api.AX, (was&0xd5|2)<<8|0x22))},
		})
	}
}

func TestFlagsFromAH(t *testing.T) {
	for v := range 256 {
		for _, was := range []uint16{0, api.Flags} {
			ax := uint16(v<<8 | 0x22)
			one{"SAHF", []byte{0x9e}, ahead(f(was), g(api.AX, ax)), f(was&0x0f00 | uint16(v)&0xd5)}.try(t)
		}
	}
}

func TestPorts(t *testing.T) {
	cases := []struct {
		tells string
		code  []byte
		ax    uint16
		event api.Event
	}{
		{"IN AL,5", []byte{0xe4, 5}, 0x11bc, api.Event{Kind: api.EvIn, N: 5, V: 0xbc}},
		{"IN AX,FF", []byte{0xe5, 0xff}, 0x9abc, api.Event{Kind: api.EvIn, N: 0xff, V: 0x9abc}},
		{"IN AL,DX", []byte{0xec}, 0x11bc, api.Event{Kind: api.EvIn, N: 0x5566, V: 0xbc}},
		{"IN AX,DX", []byte{0xed}, 0x9abc, api.Event{Kind: api.EvIn, N: 0x5566, V: 0x9abc}},
		{"OUT 5,AL", []byte{0xe6, 5}, 0x1122, api.Event{Kind: api.EvOut, N: 5, V: 0x22}},
		{"OUT FF,AX", []byte{0xe7, 0xff}, 0x1122, api.Event{Kind: api.EvOut, N: 0xff, V: 0x1122}},
		{"OUT DX,AL", []byte{0xee}, 0x1122, api.Event{Kind: api.EvOut, N: 0x5566, V: 0x22}},
		{"OUT DX,AX", []byte{0xef}, 0x1122, api.Event{Kind: api.EvOut, N: 0x5566, V: 0x1122}},
	}
	for _, c := range cases {
		laid := with(c.code...)
		m := over(laid.M, 0x9abc, 0x0def)
		want := m.R
		want.G[api.AX] = number(c.ax)
		want.IP += uint16(len(c.code))
		if !Step(m) {
			t.Fatalf("%s: it doesn't run", c.tells)
		}
		wantRegs(t, m, want)
		wantEvents(t, m, c.event)
		wantState(t, m, api.Runs)
		used := 0
		if c.event.Kind == api.EvIn {
			used = 1
		}
		if m.W.Used() != used {
			t.Errorf("%s: %d replies are used", c.tells, m.W.Used())
		}
	}
}

// The first example of the whole.
func TestOutAndHalt(t *testing.T) {
	m := with(0xb8, 7, 0, 0xe7, 5, 0xf4)
	if n := Run(m, 100); n != 3 {
		t.Errorf("%d steps", n)
	}
	wantState(t, m, api.Ended)
	wantEvents(t, m, api.Event{Kind: api.EvOut, N: 5, V: 7}, api.Event{Kind: api.EvHalt})
}
