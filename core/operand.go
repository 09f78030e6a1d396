package core

import (
	"hansom/addr"
	"hansom/api"
	"hansom/bits"
	"hansom/regs"
)

// ofRegister is the Mod of what is a register.
const ofRegister = 3

// The numbers of registers' bytes.
const (
	al = 0
	cl = 1
)

// What a first byte tells of registers.
const (
	lastThree  = 7
	segmentBit = 3
	lastTwo    = 3
)

// kind is what something is that has a value, and may have another one.
type kind int

const (
	nothing kind = iota
	halfRegister
	register
	segment
	byteThere
	wordThere
)

// holder is what has an operand's value: a register, by its number, or what is at a place.
type holder struct {
	kind   kind
	number int
	place  api.Place
}

// Get is an operand's value, as a word or a byte; tail is what stands behind the instruction (it may count from where the program is loaded).
func (m *Machine) Get(i api.Inst, op int, tail api.Val) api.Val {
	switch op {
	case api.OpIb, api.OpIv, api.OpIs:
		return tail
	case api.OpOne:
		return api.Val{V: 1}
	case api.OpThree:
		return api.Val{V: 3}
	case api.OpCL:
		return m.read(holder{kind: halfRegister, number: cl})
	case api.OpDX:
		return m.read(holder{kind: register, number: api.DX})
	}
	return m.read(m.holderOf(i, op))
}

// Put lets an operand have a value.
func (m *Machine) Put(i api.Inst, op int, v api.Val) {
	m.write(m.holderOf(i, op), v)
}

// holderOf is what has an operand's value, of those that may have another one.
func (m *Machine) holderOf(i api.Inst, op int) holder {
	switch op {
	case api.OpEb:
		return m.second(i, halfRegister, byteThere)
	case api.OpEv:
		return m.second(i, register, wordThere)
	case api.OpGb:
		return holder{kind: halfRegister, number: i.Reg}
	case api.OpGv:
		return holder{kind: register, number: i.Reg}
	case api.OpSw:
		return holder{kind: segment, number: i.Reg}
	case api.OpOb:
		return holder{kind: byteThere, place: addr.Direct(m.R, i)}
	case api.OpOv:
		return holder{kind: wordThere, place: addr.Direct(m.R, i)}
	case api.OpAL:
		return holder{kind: halfRegister, number: al}
	case api.OpAX:
		return holder{kind: register, number: api.AX}
	case api.OpZb:
		return holder{kind: halfRegister, number: int(i.Op & lastThree)}
	case api.OpZv:
		return holder{kind: register, number: int(i.Op & lastThree)}
	case api.OpZs:
		return holder{kind: segment, number: int(i.Op >> segmentBit & lastTwo)}
	}
	return holder{}
}

// second is what the second byte tells: a register of one kind, or what is in memory, of another one.
func (m *Machine) second(i api.Inst, here, there kind) holder {
	if i.Mod == ofRegister {
		return holder{kind: here, number: i.RM}
	}
	return holder{kind: there, place: m.Place(i)}
}

func (m *Machine) read(h holder) api.Val {
	switch h.kind {
	case halfRegister:
		b, plain := regs.Byte(m.R, h.number)
		m.need(plain)
		return api.Val{V: uint16(b)}
	case register:
		return regs.Get(m.R, h.number)
	case segment:
		return regs.Seg(m.R, h.number)
	case byteThere:
		return api.Val{V: m.Byte(h.place)}
	case wordThere:
		return m.Word(h.place)
	}
	return api.Val{}
}

func (m *Machine) write(h holder, v api.Val) {
	switch h.kind {
	case halfRegister:
		r, plain := regs.PutByte(m.R, h.number, m.half(v))
		m.need(plain)
		m.R = r
	case register:
		m.R = regs.Put(m.R, h.number, v)
	case segment:
		m.R = regs.PutSeg(m.R, h.number, v)
	case byteThere:
		m.SetByte(h.place, m.half(v))
	case wordThere:
		m.SetWord(h.place, v)
	}
}

// half is a value's lower byte: that takes a paragraph apart.
func (m *Machine) half(v api.Val) byte { return bits.Low(m.Plain(v)) }

// Wide tells whether an operand is a word.
func Wide(op int) bool {
	switch op {
	case api.OpEv, api.OpGv, api.OpSw, api.OpIv, api.OpIs, api.OpOv, api.OpAX, api.OpDX, api.OpZv, api.OpZs:
		return true
	}
	return false
}
