package cpu

import (
	"slices"
	"testing"

	"hansom/alu"
	"hansom/api"
	"hansom/core"
	"hansom/flow"
	"hansom/inst"
	"hansom/isa"
	"hansom/long"
	"hansom/mem"
	"hansom/shift"
)

// model is what a machine is to be behind an instruction, reckoned beside it; only segment registers have paragraphs.
type model struct {
	g      [8]uint16
	s      [4]api.Val
	ip, f  uint16
	memory *mem.Memory
	reply  uint16
	events []api.Event
	ended  bool
}

func modelOf(m *core.Machine, memory *mem.Memory, reply uint16) *model {
	x := &model{s: m.R.S, ip: m.R.IP, f: m.R.F, memory: memory, reply: reply}
	for n := range x.g {
		x.g[n] = m.R.G[n].V
	}
	return x
}

func (x *model) regs() api.Regs {
	r := api.Regs{S: x.s, IP: x.ip, F: x.f}
	for n := range r.G {
		r.G[n] = number(x.g[n])
	}
	return r
}

func (x *model) half(n int) uint16 {
	if n < 4 {
		return x.g[n] & 0xff
	}
	return x.g[n-4] >> 8
}

func (x *model) setHalf(n int, v uint16) {
	if n < 4 {
		x.g[n] = x.g[n]&0xff00 | v&0xff
	} else {
		x.g[n-4] = x.g[n-4]&0xff | v<<8
	}
}

// place is where the second byte tells something is.
func (x *model) place(i api.Inst) (uint16, uint16) {
	bx, bp, si, di := x.g[api.BX], x.g[api.BP], x.g[api.SI], x.g[api.DI]
	off := [8]uint16{bx + si, bx + di, bp + si, bp + di, si, di, bp, bx}[i.RM] + i.Disp
	seg := api.DS
	if i.RM == 2 || i.RM == 3 || i.RM == 6 {
		seg = api.SS
	}
	if i.Mod == 0 && i.RM == 6 {
		off, seg = i.Disp, api.DS
	}
	return x.segment(i, seg), off
}

// segment is the segment that a prefix tells, else that one.
func (x *model) segment(i api.Inst, other int) uint16 {
	if i.Seg > 0 {
		other = i.Seg - 1
	}
	return x.s[other].V
}

func (x *model) byteAt(seg, off uint16) uint16 {
	b, _ := x.memory.Byte(seg, off)
	return uint16(b)
}

func (x *model) wordAt(seg, off uint16) uint16 {
	return x.byteAt(seg, off) | x.byteAt(seg, off+1)<<8
}

func (x *model) setWordAt(seg, off, v uint16) {
	x.memory.SetByte(seg, off, byte(v))
	x.memory.SetByte(seg, off+1, byte(v>>8))
}

// read is an operand's value.
func (x *model) read(i api.Inst, op int) uint16 {
	switch op {
	case api.OpEb:
		if i.Mod == 3 {
			return x.half(i.RM)
		}
		return x.byteAt(x.place(i))
	case api.OpEv:
		if i.Mod == 3 {
			return x.g[i.RM]
		}
		return x.wordAt(x.place(i))
	case api.OpGb:
		return x.half(i.Reg)
	case api.OpGv:
		return x.g[i.Reg]
	case api.OpIb, api.OpIv, api.OpIs:
		return i.Imm
	case api.OpOb:
		return x.byteAt(x.segment(i, api.DS), i.Imm)
	case api.OpOv:
		return x.wordAt(x.segment(i, api.DS), i.Imm)
	case api.OpAL:
		return x.half(0)
	case api.OpCL:
		return x.half(1)
	case api.OpAX:
		return x.g[api.AX]
	case api.OpDX:
		return x.g[api.DX]
	case api.OpOne:
		return 1
	case api.OpZv:
		return x.g[i.Op&7]
	}
	return 0
}

func (x *model) write(i api.Inst, op int, v uint16) {
	switch op {
	case api.OpEb:
		if i.Mod == 3 {
			x.setHalf(i.RM, v)
		} else {
			seg, off := x.place(i)
			x.memory.SetByte(seg, off, byte(v))
		}
	case api.OpEv:
		if i.Mod == 3 {
			x.g[i.RM] = v
		} else {
			seg, off := x.place(i)
			x.setWordAt(seg, off, v)
		}
	case api.OpGb:
		x.setHalf(i.Reg, v)
	case api.OpGv:
		x.g[i.Reg] = v
	case api.OpSw:
		x.s[i.Reg] = number(v)
	case api.OpOb:
		x.memory.SetByte(x.segment(i, api.DS), i.Imm, byte(v))
	case api.OpOv:
		x.setWordAt(x.segment(i, api.DS), i.Imm, v)
	case api.OpAL:
		x.setHalf(0, v)
	case api.OpAX:
		x.g[api.AX] = v
	case api.OpZb:
		x.setHalf(int(i.Op&7), v)
	case api.OpZv:
		x.g[i.Op&7] = v
	case api.OpZs:
		x.s[i.Op>>3&3] = number(v)
	}
}

// wideOp tells whether an operand is a word, of those that are reckoned with.
func wideOp(op int) bool {
	return slices.Contains([]int{api.OpEv, api.OpGv, api.OpAX, api.OpZv, api.OpOv}, op)
}

func (x *model) push(v uint16) {
	x.g[api.SP] -= 2
	x.setWordAt(x.s[api.SS].V, x.g[api.SP], v)
}

func (x *model) pop() uint16 {
	x.g[api.SP] += 2
	return x.wordAt(x.s[api.SS].V, x.g[api.SP]-2)
}

// sum lets the flags that sums tell be these.
func (x *model) sum(flags uint16) { x.f = x.f&^api.FlagsSum | flags }

// do does an instruction; false: it is one that this model does not know.
func (x *model) do(i api.Inst) bool {
	row, _ := isa.Of(i.Op, i.Reg)
	x.ip += uint16(inst.Len(i))
	return x.reckons(i, row) || x.divides(i, row) || x.moves(i, row) || x.changes(i, row)
}

func (x *model) reckons(i api.Inst, row api.Row) bool {
	a, b := x.read(i, row.A), x.read(i, row.B)
	wide := wideOp(row.A)
	if v, flags, is := alu.Do(row.Name, a, b, x.f&api.FlagC != 0, wide); is {
		x.sum(flags)
		if row.Name != api.CMP && row.Name != api.TEST {
			x.write(i, row.A, v)
		}
		return true
	}
	if v, flags, is := alu.One(row.Name, a, x.f, wide); is {
		x.sum(flags)
		x.write(i, row.A, v)
		return true
	}
	if v, flags, is := shift.Do(row.Name, a, byte(b), x.f, wide); is {
		x.sum(flags)
		x.write(i, row.A, v)
		return true
	}
	for _, f := range []func(int, uint16, uint16) (uint16, uint16, bool){long.Decimal, long.Adjust} {
		if v, flags, is := f(row.Name, x.g[api.AX], x.f); is {
			x.g[api.AX] = v
			x.sum(flags)
			return true
		}
	}
	return false
}

func (x *model) divides(i api.Inst, row api.Row) bool {
	v, wide := x.read(i, row.A), wideOp(row.A)
	low, high := x.half(0), x.half(4)
	if wide {
		low, high = x.g[api.AX], x.g[api.DX]
	}
	switch row.Name {
	case api.MUL, api.IMUL:
		var tells bool
		low, high, tells = long.Mul(row.Name, low, v, wide)
		x.f &^= api.FlagC | api.FlagO
		if tells {
			x.f |= api.FlagC | api.FlagO
		}
	case api.DIV, api.IDIV:
		often, left, is := long.Div(row.Name, low, high, v, wide)
		if !is {
			x.ended = true
			x.events = append(x.events, api.Event{Kind: api.EvFault})
			return true
		}
		low, high = often, left
	default:
		return false
	}
	if wide {
		x.g[api.AX], x.g[api.DX] = low, high
	} else {
		x.g[api.AX] = low | high<<8
	}
	return true
}

func (x *model) moves(i api.Inst, row api.Row) bool {
	a, b := x.read(i, row.A), x.read(i, row.B)
	switch row.Name {
	case api.MOV:
		x.write(i, row.A, b)
	case api.XCHG:
		x.write(i, row.A, b)
		x.write(i, row.B, a)
	case api.LEA:
		_, x.g[i.Reg] = x.place(i)
	case api.LES, api.LDS:
		seg, off := x.place(i)
		x.g[i.Reg] = x.wordAt(seg, off)
		to := api.ES
		if row.Name == api.LDS {
			to = api.DS
		}
		x.s[to] = number(x.wordAt(seg, off+2))
	case api.XLAT:
		x.setHalf(0, x.byteAt(x.segment(i, api.DS), x.g[api.BX]+x.half(0)))
	case api.PUSH:
		// Of a segment register a paragraph is laid there: that is tried by hand.
		if row.A == api.OpZs {
			return false
		}
		if row.A == api.OpZv && i.Op == 0x54 || row.A == api.OpEv && i.Mod == 3 && i.RM == api.SP {
			a -= 2
		}
		x.push(a)
	case api.POP:
		x.write(i, row.A, x.pop())
	case api.PUSHF:
		x.push(x.f | api.Fixed)
	case api.POPF:
		x.f = x.pop() & api.Flags
	default:
		return false
	}
	return true
}

func (x *model) changes(i api.Inst, row api.Row) bool {
	a, b := x.read(i, row.A), x.read(i, row.B)
	switch row.Name {
	case api.LAHF:
		x.setHalf(4, x.f&0xd5|2)
	case api.SAHF:
		x.f = x.f&0xff00 | x.half(4)&0xd5
	case api.CBW:
		x.g[api.AX] = uint16(int8(x.half(0)))
	case api.CWD:
		x.g[api.DX] = 0
		if x.g[api.AX] > 0x7fff {
			x.g[api.DX] = 0xffff
		}
	case api.IN:
		v := x.reply
		if row.A == api.OpAL {
			v &= 0xff
		}
		x.events = append(x.events, api.Event{Kind: api.EvIn, N: b, V: v})
		x.write(i, row.A, v)
	case api.OUT:
		x.events = append(x.events, api.Event{Kind: api.EvOut, N: a, V: b})
	case api.HLT:
		x.ended = true
		x.events = append(x.events, api.Event{Kind: api.EvHalt})
	case api.CLC:
		x.f &^= 1
	case api.STC:
		x.f |= 1
	case api.CMC:
		x.f ^= 1
	case api.CLI:
		x.f &^= 512
	case api.STI:
		x.f |= 512
	case api.CLD:
		x.f &^= 1024
	case api.STD:
		x.f |= 1024
	case api.ESC, api.WAIT:
	default:
		return false
	}
	return true
}

// drawnValue is a word that is often one at an edge, or small.
func drawnValue(d *drawer) uint16 {
	edges := []uint16{0, 1, 2, 7, 8, 16, 0x7f, 0x80, 0xff, 0x100, 0x7fff, 0x8000, 0xff00, 0xfffe, 0xffff}
	switch d.below(4) {
	case 0:
		return edges[d.below(len(edges))]
	case 1:
		return d.word() & 0x1f
	}
	return d.word()
}

// drawnMachine has drawn registers, and the segments of these tests in a drawn order.
func drawnMachine(d *drawer, memory *mem.Memory, reply uint16) *core.Machine {
	m := over(memory, reply)
	for n := range m.R.G {
		m.R.G[n] = number(drawnValue(d))
	}
	for n := range m.R.S {
		m.R.S[n] = paragraph(uint16(0x1000 * (1 + d.below(4))))
	}
	m.R.IP, m.R.F = d.word(), d.word()&api.Flags
	return m
}

// drawnMemory lays drawn bytes into the program, in two memories.
func drawnMemory(d *drawer) (*mem.Memory, *mem.Memory) {
	bytes := make([]byte, programSize)
	for k := range bytes {
		bytes[k] = byte(drawnValue(d))
	}
	a, b := mem.New(), mem.New()
	a.Load(programPara*16, bytes)
	b.Load(programPara*16, bytes)
	return a, b
}

// Each instruction that is done here, with drawn parts, registers, flags and bytes, against the model.
func TestAgainstTheModel(t *testing.T) {
	d := drawer(1616)
	memory, beside := drawnMemory(&d)
	did := map[int]int{}
	for range 60 {
		for _, i := range drawnInsts(&d) {
			row, _ := isa.Of(i.Op, i.Reg)
			if flow.Is(row.Name) || isa.Repeats(row.Name) > 0 || row.B == api.OpSw {
				continue
			}
			reply := d.word()
			m := drawnMachine(&d, memory, reply)
			lay(m, m.R.IP, bytesOf(t, i))
			x := modelOf(m, beside, reply)
			for k, b := range bytesOf(t, i) {
				beside.SetByte(x.s[api.CS].V, x.ip+uint16(k), b)
			}
			if !x.do(i) {
				continue
			}
			did[row.Name]++
			if !Step(m) || (m.State() == api.Ended) != x.ended || m.State() == api.Stuck {
				t.Fatalf("%+v: the state is %d", i, m.State())
			}
			if want := x.regs(); m.R != want {
				t.Fatalf("%+v: the registers are\n%+v, want\n%+v", i, m.R, want)
			}
			wantEvents(t, m, x.events...)
			if i.Mod != 3 {
				seg, off := x.place(i)
				wantWord(t, m, seg, off, number(x.wordAt(seg, off)))
			}
		}
	}
	wantBytes(t, over(memory), beside.Bytes(0, api.MemoryBytes))
	for name := 1; name <= api.Names; name++ {
		if !flow.Is(name) && isa.Repeats(name) == 0 && did[name] == 0 {
			t.Errorf("name %d was not tried", name)
		}
	}
}
