package cpu

import (
	"hansom/alu"
	"hansom/api"
	"hansom/bits"
	"hansom/long"
	"hansom/regs"
	"hansom/shift"
)

// wordSign is how far a word's sign is from its lowest bit.
const wordSign = 15

// reckon does what needs numbers; all others it leaves to change.
func (d doing) reckon() {
	switch d.row.Name {
	case api.ADD, api.ADC, api.SUB, api.SBB, api.OR, api.AND, api.XOR:
		d.put(d.row.A, d.both())
	case api.CMP, api.TEST:
		d.both()
	case api.INC, api.DEC, api.NOT, api.NEG:
		d.one()
	case api.ROL, api.ROR, api.RCL, api.RCR, api.SHL, api.SHR, api.SAR:
		d.shift()
	case api.MUL, api.IMUL:
		d.multiply()
	case api.DIV, api.IDIV:
		d.divide()
	case api.AAA, api.AAS, api.DAA, api.DAS:
		d.decimal()
	case api.AAM, api.AAD:
		d.adjust()
	case api.CBW:
		d.setRegister(api.AX, bits.Sign(bits.Low(d.number(api.OpAX))))
	case api.CWD:
		d.setRegister(api.DX, uint16(int16(d.number(api.OpAX))>>wordSign))
	default:
		d.change()
	}
}

// change does what changes a flag alone. ESC and WAIT are left: they do nothing.
func (d doing) change() {
	switch d.row.Name {
	case api.CLC:
		d.setFlags(api.FlagC, 0)
	case api.STC:
		d.setFlags(api.FlagC, api.FlagC)
	case api.CMC:
		d.setFlags(api.FlagC, ^d.m.R.F)
	case api.CLI:
		d.setFlags(api.FlagI, 0)
	case api.STI:
		d.setFlags(api.FlagI, api.FlagI)
	case api.CLD:
		d.setFlags(api.FlagD, 0)
	case api.STD:
		d.setFlags(api.FlagD, api.FlagD)
	}
}

// both is what two numbers come to; the flags are those of it.
func (d doing) both() api.Val {
	a, b := d.number(d.row.A), d.number(d.row.B)
	carry := regs.Flag(d.m.R, api.FlagC)
	v, flags, _ := alu.Do(d.row.Name, a, b, carry, d.wide())
	d.setFlags(api.FlagsSum, flags)
	return api.Val{V: v}
}

// one lets a number be what it comes to.
func (d doing) one() {
	v, flags, _ := alu.One(d.row.Name, d.number(d.row.A), d.m.R.F, d.wide())
	d.setFlags(api.FlagsSum, flags)
	d.put(d.row.A, api.Val{V: v})
}

// shift lets a number be what it is behind as many steps as are told.
func (d doing) shift() {
	v, steps := d.number(d.row.A), bits.Low(d.number(d.row.B))
	v, flags, _ := shift.Do(d.row.Name, v, steps, d.m.R.F, d.wide())
	d.setFlags(api.FlagsSum, flags)
	d.put(d.row.A, api.Val{V: v})
}

// multiply lets AX, or DX and AX, be a product.
func (d doing) multiply() {
	low, high, tells := long.Mul(d.row.Name, d.number(api.OpAX), d.number(d.row.A), d.wide())
	d.setHalves(low, high)
	d.m.R = regs.With(d.m.R, api.FlagC|api.FlagO, tells)
}

// divide lets AL, or AX, be how often, and AH, or DX, what is left.
func (d doing) divide() {
	low, high := d.halves()
	often, left, can := long.Div(d.row.Name, low, high, d.number(d.row.A), d.wide())
	if !can {
		d.m.End(api.EvFault)
		return
	}
	d.setHalves(often, left)
}

// halves is AL and AH, or AX and DX.
func (d doing) halves() (uint16, uint16) {
	ax := d.number(api.OpAX)
	if d.wide() {
		return ax, d.number(api.OpDX)
	}
	return uint16(bits.Low(ax)), uint16(bits.High(ax))
}

func (d doing) setHalves(low, high uint16) {
	if !d.wide() {
		d.setRegister(api.AX, bits.Word(bits.Low(low), bits.Low(high)))
		return
	}
	d.setRegister(api.AX, low)
	d.setRegister(api.DX, high)
}

func (d doing) setRegister(n int, v uint16) {
	d.m.R = regs.Put(d.m.R, n, api.Val{V: v})
}

// decimal and adjust are what is done to AX for decimal digits' sake.
func (d doing) decimal() {
	ax, flags, _ := long.Decimal(d.row.Name, d.number(api.OpAX), d.m.R.F)
	d.setRegister(api.AX, ax)
	d.setFlags(api.FlagsSum, flags)
}

func (d doing) adjust() {
	ax, flags, _ := long.Adjust(d.row.Name, d.number(api.OpAX), d.m.R.F)
	d.setRegister(api.AX, ax)
	d.setFlags(api.FlagsSum, flags)
}
