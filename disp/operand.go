package disp

import (
	"hansom/api"
	"hansom/bits"
)

// ofRegister is the Mod of what is a register; direct is the RM that, with Mod 0, has no registers to count from but a word.
const (
	ofRegister = 3
	direct     = 6
)

// How many digits bytes and words have.
const (
	byteDigits = 2
	wordDigits = 4
)

// fixed is the operands that are always the same, by their numbers.
var fixed = [...]string{api.OpAL: "AL", api.OpCL: "CL", api.OpAX: "AX", api.OpDX: "DX", api.OpOne: "1", api.OpThree: "3"}

// sizes is what is told of memory that an operand may be in, by the operands' numbers; LEA takes nothing from there, so that of it nothing is told.
var sizes = [...]string{api.OpEb: "BYTE ", api.OpEv: "WORD ", api.OpOb: "BYTE ", api.OpOv: "WORD ", api.OpMp: "FAR ", api.OpM: ""}

// counts is the registers that count, by RM.
var counts = [8]string{"BX+SI", "BX+DI", "BP+SI", "BP+DI", "SI", "DI", "BP", "BX"}

// operands is both operands of an instruction that may be, with what stands ahead of each.
func operands(i api.Inst, r api.Row) string {
	text, mark := "", " "
	for _, op := range [2]int{r.A, r.B} {
		if op != api.OpNone {
			text += mark + operand(i, op)
			mark = ","
		}
	}
	return text
}

// operand is one of them.
func operand(i api.Inst, op int) string {
	switch op {
	case api.OpEb, api.OpEv, api.OpMp, api.OpM, api.OpOb, api.OpOv:
		return place(i, op)
	case api.OpGb:
		return Byte(i.Reg)
	case api.OpGv:
		return Reg(i.Reg)
	case api.OpSw:
		return Seg(i.Reg)
	case api.OpZb:
		return Byte(int(i.Op & 7))
	case api.OpZv:
		return Reg(int(i.Op & 7))
	case api.OpZs:
		// 06, 0E, 16 and 1E have its number above their lowest three bits.
		return Seg(int(i.Op >> 3 & 3))
	case api.OpIb:
		return number(i.Imm, byteDigits)
	case api.OpIv, api.OpIs:
		return number(i.Imm, wordDigits)
	case api.OpJb, api.OpJv:
		return signed(i.Imm, wordDigits)
	case api.OpAp:
		return number(i.Sel, wordDigits) + ":" + number(i.Imm, wordDigits)
	}
	return fixed[op]
}

// place is an operand that may be in memory.
func place(i api.Inst, op int) string {
	switch {
	case op == api.OpOb, op == api.OpOv:
		return memory(i, op, number(i.Imm, wordDigits))
	case i.Mod != ofRegister:
		return memory(i, op, where(i))
	case op == api.OpEb:
		return Byte(i.RM)
	}
	return Reg(i.RM)
}

// memory is an operand that is there in memory, in the segment that the prefix tells.
func memory(i api.Inst, op int, there string) string {
	there = "[" + there + "]"
	if i.Seg > 0 {
		there = Seg(i.Seg-1) + ":" + there
	}
	return sizes[op] + there
}

// where is the place in its segment that the second byte tells.
func where(i api.Inst) string {
	switch {
	case i.Mod == 0 && i.RM == direct:
		return number(i.Disp, wordDigits)
	case i.Mod == 1:
		return counts[i.RM] + signed(i.Disp, byteDigits)
	case i.Mod == 2:
		return counts[i.RM] + "+" + number(i.Disp, wordDigits)
	}
	return counts[i.RM]
}

// number is so many digits of a number.
func number(n uint16, digits int) string { return bits.Digits(uint32(n), digits) }

// signed is so many digits of a number that has a sign, and it.
func signed(n uint16, digits int) string {
	if int16(n) < 0 {
		return "-" + number(-n, digits)
	}
	return "+" + number(n, digits)
}
