package cpu

import (
	"hansom/api"
	"hansom/bits"
	"hansom/core"
	"hansom/flow"
	"hansom/isa"
	"hansom/regs"
	"hansom/strop"
)

const (
	// ofRegister is the Mod of what is a register; lastThree, what a first byte tells of one.
	ofRegister = 3
	lastThree  = 7

	// atBX is the RM of what is at BX: so the machine's own reckoning of places does for XLAT.
	atBX = 7

	// ah is the number of that byte, which no operand tells.
	ah = 4

	// flagsOfAH is the flags that LAHF and SAHF move.
	flagsOfAH = 0xff
)

// doing is an instruction that was fetched, and the machine that does it.
type doing struct {
	m   *core.Machine
	i   api.Inst
	row api.Row
	imm api.Val
	sel api.Val
}

// do does the instruction; true: it is to be done again.
func (d doing) do() bool {
	switch name := d.row.Name; {
	case flow.Is(name):
		flow.Do(d.m, d.i, d.row, d.imm, d.sel)
	case isa.Repeats(name) > 0:
		return strop.Do(d.m, d.i, name)
	default:
		d.move()
	}
	return false
}

// move does what moves values as they are; all others it leaves to reckon.
func (d doing) move() {
	switch d.row.Name {
	case api.MOV:
		d.put(d.row.A, d.get(d.row.B))
	case api.XCHG:
		d.exchange()
	case api.LEA:
		d.put(d.row.A, api.Val{V: d.m.Place(d.i).Off})
	case api.LES:
		d.loadFar(api.ES)
	case api.LDS:
		d.loadFar(api.DS)
	case api.XLAT:
		d.translate()
	case api.PUSH:
		d.push(d.pushed())
	case api.POP:
		d.put(d.row.A, d.m.Pop())
	case api.PUSHF:
		d.push(api.Val{V: regs.FlagsWord(d.m.R)})
	case api.POPF:
		flags := d.m.Plain(d.m.Pop())
		d.m.R = regs.FromWord(d.m.R, flags)
	case api.LAHF:
		flags := bits.Low(regs.FlagsWord(d.m.R))
		d.m.Put(api.Inst{Reg: ah}, api.OpGb, api.Val{V: uint16(flags)})
	case api.SAHF:
		d.setFlags(flagsOfAH, d.m.Get(api.Inst{Reg: ah}, api.OpGb, api.Val{}).V)
	case api.IN:
		d.in()
	case api.OUT:
		d.out()
	case api.HLT:
		d.m.End(api.EvHalt)
	default:
		d.reckon()
	}
}

// get is an operand's value; number is one that is to be plain.
func (d doing) get(op int) api.Val { return d.m.Get(d.i, op, d.imm) }

func (d doing) number(op int) uint16 { return d.m.Plain(d.get(op)) }

// put lets an operand have a value; push lays one on the stack.
func (d doing) put(op int, v api.Val) {
	// A machine that is stuck still writes where it may, but what, or where, may hang on where the program is loaded.
	if d.m.State() != api.Stuck {
		d.m.Put(d.i, op, v)
	}
}

func (d doing) push(v api.Val) {
	// SP that is a paragraph lets it be stuck, but not ahead of the writing: so it is asked ahead here.
	d.m.Plain(regs.Get(d.m.R, api.SP))
	if d.m.State() != api.Stuck {
		d.m.Push(v)
	}
}

// setFlags lets some of the flags be as these tell; the others stay.
func (d doing) setFlags(some, told uint16) {
	d.m.R = regs.With(d.m.R, some, false)
	d.m.R = regs.With(d.m.R, some&told, true)
}

// exchange reads both ahead. What may be in memory is the first operand: the second one may tell where that is, so that it is written last.
func (d doing) exchange() {
	a, b := d.get(d.row.A), d.get(d.row.B)
	d.put(d.row.A, b)
	d.put(d.row.B, a)
}

// loadFar loads a register and a segment register; both are read ahead, as each may tell where they are.
func (d doing) loadFar(segment int) {
	p := d.m.Place(d.i)
	v := d.m.Word(p)
	p.Off += wordBytes
	seg := d.m.Word(p)
	d.put(d.row.A, v)
	d.m.R = regs.PutSeg(d.m.R, segment, seg)
}

// translate lets AL be the byte at BX and AL.
func (d doing) translate() {
	p := d.m.Place(api.Inst{RM: atBX, Disp: d.number(api.OpAL), Seg: d.i.Seg})
	d.put(api.OpAL, api.Val{V: d.m.Byte(p)})
}

// pushed is what PUSH lays on the stack: SP is less already when it is laid there.
func (d doing) pushed() api.Val {
	v := d.get(d.row.A)
	if d.ofSP() {
		v.V -= wordBytes
	}
	return v
}

// ofSP tells whether the operand is SP.
func (d doing) ofSP() bool {
	switch d.row.A {
	case api.OpZv:
		return d.i.Op&lastThree == api.SP
	case api.OpEv:
		return d.i.Mod == ofRegister && d.i.RM == api.SP
	}
	return false
}

// in lets AL, or AX, be what comes from a port.
func (d doing) in() {
	port := d.number(d.row.B)
	// AL that is half of a paragraph takes nothing: it is asked ahead, so that nothing happens then.
	d.get(d.row.A)
	if d.m.State() != api.Stuck {
		d.put(d.row.A, api.Val{V: d.m.W.In(port, d.wide())})
	}
}

// out lets AL, or AX, go to a port.
func (d doing) out() {
	port, v := d.number(d.row.A), d.number(d.row.B)
	if d.m.State() != api.Stuck {
		d.m.W.Out(port, v)
	}
}

// wide tells whether it goes by words.
func (d doing) wide() bool { return core.Wide(d.row.A) }
