package isa

import (
	"math"
	"slices"
	"strconv"
	"strings"
	"testing"

	"hansom/api"
)

// table is every instruction: first byte, middles of the second one (where not each of them will do), name, operands.
const table = `
00 ADD Eb,Gb; 01 ADD Ev,Gv; 02 ADD Gb,Eb; 03 ADD Gv,Ev; 04 ADD AL,Ib; 05 ADD AX,Iv; 06 PUSH Zs
07 POP Zs; 08 OR Eb,Gb; 09 OR Ev,Gv; 0A OR Gb,Eb; 0B OR Gv,Ev; 0C OR AL,Ib; 0D OR AX,Iv; 0E PUSH Zs
10 ADC Eb,Gb; 11 ADC Ev,Gv; 12 ADC Gb,Eb; 13 ADC Gv,Ev; 14 ADC AL,Ib; 15 ADC AX,Iv; 16 PUSH Zs
17 POP Zs; 18 SBB Eb,Gb; 19 SBB Ev,Gv; 1A SBB Gb,Eb; 1B SBB Gv,Ev; 1C SBB AL,Ib; 1D SBB AX,Iv
1E PUSH Zs; 1F POP Zs; 20 AND Eb,Gb; 21 AND Ev,Gv; 22 AND Gb,Eb; 23 AND Gv,Ev; 24 AND AL,Ib
25 AND AX,Iv; 27 DAA; 28 SUB Eb,Gb; 29 SUB Ev,Gv; 2A SUB Gb,Eb; 2B SUB Gv,Ev; 2C SUB AL,Ib
2D SUB AX,Iv; 2F DAS; 30 XOR Eb,Gb; 31 XOR Ev,Gv; 32 XOR Gb,Eb; 33 XOR Gv,Ev; 34 XOR AL,Ib
35 XOR AX,Iv; 37 AAA; 38 CMP Eb,Gb; 39 CMP Ev,Gv; 3A CMP Gb,Eb; 3B CMP Gv,Ev; 3C CMP AL,Ib
3D CMP AX,Iv; 3F AAS; 40 INC Zv; 41 INC Zv; 42 INC Zv; 43 INC Zv; 44 INC Zv; 45 INC Zv; 46 INC Zv
47 INC Zv; 48 DEC Zv; 49 DEC Zv; 4A DEC Zv; 4B DEC Zv; 4C DEC Zv; 4D DEC Zv; 4E DEC Zv; 4F DEC Zv
50 PUSH Zv; 51 PUSH Zv; 52 PUSH Zv; 53 PUSH Zv; 54 PUSH Zv; 55 PUSH Zv; 56 PUSH Zv; 57 PUSH Zv
58 POP Zv; 59 POP Zv; 5A POP Zv; 5B POP Zv; 5C POP Zv; 5D POP Zv; 5E POP Zv; 5F POP Zv; 70 JO Jb
71 JNO Jb; 72 JB Jb; 73 JNB Jb; 74 JZ Jb; 75 JNZ Jb; 76 JBE Jb; 77 JA Jb; 78 JS Jb; 79 JNS Jb
7A JP Jb; 7B JNP Jb; 7C JL Jb; 7D JGE Jb; 7E JLE Jb; 7F JG Jb; 80/0 ADD Eb,Ib; 80/1 OR Eb,Ib
80/2 ADC Eb,Ib; 80/3 SBB Eb,Ib; 80/4 AND Eb,Ib; 80/5 SUB Eb,Ib; 80/6 XOR Eb,Ib; 80/7 CMP Eb,Ib
81/0 ADD Ev,Iv; 81/1 OR Ev,Iv; 81/2 ADC Ev,Iv; 81/3 SBB Ev,Iv; 81/4 AND Ev,Iv; 81/5 SUB Ev,Iv
81/6 XOR Ev,Iv; 81/7 CMP Ev,Iv; 83/0 ADD Ev,Is; 83/2 ADC Ev,Is; 83/3 SBB Ev,Is; 83/5 SUB Ev,Is
83/7 CMP Ev,Is; 84 TEST Eb,Gb; 85 TEST Ev,Gv; 86 XCHG Eb,Gb; 87 XCHG Ev,Gv; 88 MOV Eb,Gb
89 MOV Ev,Gv; 8A MOV Gb,Eb; 8B MOV Gv,Ev; 8C/0123 MOV Ev,Sw; 8D LEA Gv,M; 8E/023 MOV Sw,Ev
8F/0 POP Ev; 90 XCHG AX,Zv; 91 XCHG AX,Zv; 92 XCHG AX,Zv; 93 XCHG AX,Zv; 94 XCHG AX,Zv
95 XCHG AX,Zv; 96 XCHG AX,Zv; 97 XCHG AX,Zv; 98 CBW; 99 CWD; 9A CALLF Ap; 9B WAIT; 9C PUSHF; 9D POPF
9E SAHF; 9F LAHF; A0 MOV AL,Ob; A1 MOV AX,Ov; A2 MOV Ob,AL; A3 MOV Ov,AX; A4 MOVSB; A5 MOVSW
A6 CMPSB; A7 CMPSW; A8 TEST AL,Ib; A9 TEST AX,Iv; AA STOSB; AB STOSW; AC LODSB; AD LODSW; AE SCASB
AF SCASW; B0 MOV Zb,Ib; B1 MOV Zb,Ib; B2 MOV Zb,Ib; B3 MOV Zb,Ib; B4 MOV Zb,Ib; B5 MOV Zb,Ib
B6 MOV Zb,Ib; B7 MOV Zb,Ib; B8 MOV Zv,Iv; B9 MOV Zv,Iv; BA MOV Zv,Iv; BB MOV Zv,Iv; BC MOV Zv,Iv
BD MOV Zv,Iv; BE MOV Zv,Iv; BF MOV Zv,Iv; C2 RET Iv; C3 RET; C4 LES Gv,Mp; C5 LDS Gv,Mp
C6/0 MOV Eb,Ib; C7/0 MOV Ev,Iv; CA RETF Iv; CB RETF; CC INT Three; CD INT Ib; CE INTO; CF IRET
D0/0 ROL Eb,One; D0/1 ROR Eb,One; D0/2 RCL Eb,One; D0/3 RCR Eb,One; D0/4 SHL Eb,One; D0/5 SHR Eb,One
D0/7 SAR Eb,One; D1/0 ROL Ev,One; D1/1 ROR Ev,One; D1/2 RCL Ev,One; D1/3 RCR Ev,One; D1/4 SHL Ev,One
D1/5 SHR Ev,One; D1/7 SAR Ev,One; D2/0 ROL Eb,CL; D2/1 ROR Eb,CL; D2/2 RCL Eb,CL; D2/3 RCR Eb,CL
D2/4 SHL Eb,CL; D2/5 SHR Eb,CL; D2/7 SAR Eb,CL; D3/0 ROL Ev,CL; D3/1 ROR Ev,CL; D3/2 RCL Ev,CL
D3/3 RCR Ev,CL; D3/4 SHL Ev,CL; D3/5 SHR Ev,CL; D3/7 SAR Ev,CL; D4 AAM Ib; D5 AAD Ib; D7 XLAT
D8 ESC Ev; D9 ESC Ev; DA ESC Ev; DB ESC Ev; DC ESC Ev; DD ESC Ev; DE ESC Ev; DF ESC Ev; E0 LOOPNZ Jb
E1 LOOPZ Jb; E2 LOOP Jb; E3 JCXZ Jb; E4 IN AL,Ib; E5 IN AX,Ib; E6 OUT Ib,AL; E7 OUT Ib,AX
E8 CALL Jv; E9 JMP Jv; EA JMPF Ap; EB JMP Jb; EC IN AL,DX; ED IN AX,DX; EE OUT DX,AL; EF OUT DX,AX
F4 HLT; F5 CMC; F6/0 TEST Eb,Ib; F6/2 NOT Eb; F6/3 NEG Eb; F6/4 MUL Eb; F6/5 IMUL Eb; F6/6 DIV Eb
F6/7 IDIV Eb; F7/0 TEST Ev,Iv; F7/2 NOT Ev; F7/3 NEG Ev; F7/4 MUL Ev; F7/5 IMUL Ev; F7/6 DIV Ev
F7/7 IDIV Ev; F8 CLC; F9 STC; FA CLI; FB STI; FC CLD; FD STD; FE/0 INC Eb; FE/1 DEC Eb; FF/0 INC Ev
FF/1 DEC Ev; FF/2 CALL Ev; FF/3 CALLF Mp; FF/4 JMP Ev; FF/5 JMPF Mp; FF/6 PUSH Ev
`

// names and operands stand in the order of api's numbers.
const (
	names = "ADD OR ADC SBB AND SUB XOR CMP PUSH POP DAA DAS AAA AAS INC DEC JO JNO JB JNB JZ JNZ JBE JA JS JNS JP JNP JL JGE JLE JG " +
		"TEST XCHG MOV LEA CBW CWD CALL CALLF WAIT PUSHF POPF SAHF LAHF MOVSB MOVSW CMPSB CMPSW STOSB STOSW LODSB LODSW SCASB SCASW " +
		"RET RETF LES LDS INT INTO IRET ROL ROR RCL RCR SHL SHR SAR AAM AAD XLAT ESC LOOPNZ LOOPZ LOOP JCXZ IN OUT JMP JMPF HLT CMC " +
		"NOT NEG MUL IMUL DIV IDIV CLC STC CLI STI CLD STD"
	operands = "None Eb Ev Gb Gv Sw Ib Iv Is Jb Jv Ap Ob Ov AL CL AX DX One Mp M Zb Zv Zs Three"
)

// key is a first byte and the middle of the second one.
type key struct {
	op  byte
	reg int
}

// place is the place of a word among others; -1: it is not among them.
func place(words, word string) int {
	for at, w := range strings.Fields(words) {
		if w == word {
			return at
		}
	}
	return -1
}

// number is the number of a name, or of an operand.
func number(t *testing.T, words, word string) int {
	t.Helper()
	n := place(words, word)
	if n < 0 {
		t.Fatalf("the test's table has %q", word)
	}
	return n
}

// rows is the table, with whether there is a second byte.
func rows(t *testing.T) map[key]api.Row {
	t.Helper()
	all := map[key]api.Row{}
	for _, entry := range strings.FieldsFunc(table, func(r rune) bool { return r == ';' || r == '\n' }) {
		f := strings.Fields(entry)
		first, regs, some := strings.Cut(f[0], "/")
		if !some {
			regs = "01234567"
		}
		op, err := strconv.ParseUint(first, 16, 8)
		if err != nil {
			t.Fatal(err)
		}
		row := api.Row{Name: 1 + number(t, names, f[1])}
		if len(f) > 2 {
			a, b, more := strings.Cut(f[2], ",")
			row.A = number(t, operands, a)
			if more {
				row.B = number(t, operands, b)
			}
			for _, o := range []string{a, b} {
				row.Mod = row.Mod || place("Eb Ev Gb Gv Sw M Mp", o) >= 0
			}
		}
		for _, r := range regs {
			k := key{byte(op), int(r - '0')}
			if _, twice := all[k]; twice {
				t.Fatalf("the test's table has %v twice", k)
			}
			all[k] = row
		}
	}
	return all
}

// strange is numbers that are no name and no operand.
func strange() []int {
	return []int{math.MinInt, math.MinInt32, -256, -96, -95, -46, -8, -1, 0, 96, 97, 255, 256, 256 + 46, 1<<16 + 1, 1<<32 + 1, math.MaxInt32, math.MaxInt}
}

func TestNumbersOfNames(t *testing.T) {
	for name, n := range map[string]int{"ADD": api.ADD, "CMP": api.CMP, "JO": api.JO, "JG": api.JG, "MOVSB": api.MOVSB, "SCASW": api.SCASW, "JMPF": api.JMPF, "STD": api.STD, "ESC": api.ESC} {
		if place(names, name)+1 != n {
			t.Errorf("the test's table has %s at %d, it is %d", name, place(names, name)+1, n)
		}
	}
	if n := len(strings.Fields(names)); n != api.Names {
		t.Errorf("%d names, there are %d", n, api.Names)
	}
	for name, n := range map[string]int{"None": api.OpNone, "Eb": api.OpEb, "Ap": api.OpAp, "DX": api.OpDX, "One": api.OpOne, "Mp": api.OpMp, "M": api.OpM, "Zs": api.OpZs, "Three": api.OpThree} {
		if place(operands, name) != n {
			t.Errorf("the test's table has %s at %d, it is %d", name, place(operands, name), n)
		}
	}
}

func TestOf(t *testing.T) {
	all := rows(t)
	for op := range 256 {
		for reg := range 8 {
			want, there := all[key{byte(op), reg}]
			if got, ok := Of(byte(op), reg); got != want || ok != there {
				t.Errorf("Of(%02x, %d) is %v, %t; want %v, %t", op, reg, got, ok, want, there)
			}
		}
	}
}

func TestOfCountsModuloEight(t *testing.T) {
	all := rows(t)
	check := func(op byte, reg, middle int) {
		want, there := all[key{op, middle}]
		if got, ok := Of(op, reg); got != want || ok != there {
			t.Errorf("Of(%02x, %d) is %v, %t; want that of %d: %v, %t", op, reg, got, ok, middle, want, there)
		}
	}
	for op := range 256 {
		for middle := range 8 {
			for _, far := range []int{-1 << 40, -1 << 16, -256, -64, -16, -8, 8, 16, 24, 64, 256, 1 << 16, 1 << 40} {
				check(byte(op), far+middle, middle)
			}
		}
		check(byte(op), -1, 7)
		check(byte(op), -7, 1)
		check(byte(op), math.MinInt, 0)
		check(byte(op), math.MaxInt, 7)
	}
}

func TestOfEachName(t *testing.T) {
	found := map[int]bool{}
	for op := range 256 {
		for reg := range 8 {
			if r, ok := Of(byte(op), reg); ok {
				found[r.Name] = true
			}
		}
	}
	for n := 1; n <= api.Names; n++ {
		if !found[n] {
			t.Errorf("no instruction has the name %d", n)
		}
	}
	if len(found) != api.Names {
		t.Errorf("%d names, there are %d", len(found), api.Names)
	}
}

func TestOfExample(t *testing.T) {
	if r, ok := Of(0x90, 0); !ok || r != (api.Row{Name: api.XCHG, A: api.OpAX, B: api.OpZv}) {
		t.Errorf("90 is %v, %t", r, ok)
	}
}

func TestOfNoInstruction(t *testing.T) {
	never := []byte{0x0f, 0x82, 0xc0, 0xc1, 0xc8, 0xc9, 0xd6, 0xf1, 0x26, 0x2e, 0x36, 0x3e, 0xf0, 0xf2, 0xf3}
	for op := byte(0x60); op < 0x70; op++ {
		never = append(never, op)
	}
	for _, op := range never {
		for reg := -8; reg < 16; reg++ {
			if r, ok := Of(op, reg); ok || r != (api.Row{}) {
				t.Errorf("Of(%02x, %d) is %v, %t", op, reg, r, ok)
			}
		}
	}
	for op := range 256 {
		some := false
		for reg := range 8 {
			_, ok := Of(byte(op), reg)
			some = some || ok
		}
		if some == slices.Contains(never, byte(op)) {
			t.Errorf("%02x: there is an instruction: %t", op, some)
		}
	}
}

// checkBytes holds a call of a byte against those bytes of which it is true, in hexadecimal.
func checkBytes(t *testing.T, call string, f func(byte) bool, words string) {
	t.Helper()
	for b := range 256 {
		want := place(words, strings.ToUpper(strconv.FormatInt(int64(b+0x100), 16)[1:])) >= 0
		if f(byte(b)) != want {
			t.Errorf("%s(%02x) is %t", call, b, !want)
		}
	}
}

func TestPrefix(t *testing.T) { checkBytes(t, "Prefix", Prefix, "26 2E 36 3E F0 F2 F3") }

func TestGrouped(t *testing.T) {
	checkBytes(t, "Grouped", Grouped, "80 81 83 8F C6 C7 D0 D1 D2 D3 F6 F7 FE FF")
}

func TestGroupedTellsTheName(t *testing.T) {
	for op := range 256 {
		different := false
		first, _ := Of(byte(op), 0)
		for reg := range 8 {
			if r, ok := Of(byte(op), reg); ok && r.Name != first.Name {
				different = true
			}
		}
		if different && !Grouped(byte(op)) {
			t.Errorf("%02x has several names, but is not grouped", op)
		}
	}
}

func TestTwo(t *testing.T) {
	checkBytes(t, "Two", Two, "00 01 02 03 08 09 0A 0B 10 11 12 13 18 19 1A 1B 20 21 22 23 28 29 2A 2B 30 31 32 33 38 39 3A 3B "+
		"80 81 83 84 85 86 87 88 89 8A 8B 8C 8D 8E 8F C4 C5 C6 C7 D0 D1 D2 D3 D8 D9 DA DB DC DD DE DF F6 F7 FE FF")
}

func TestTwoIsTheRows(t *testing.T) {
	for k, r := range rows(t) {
		if Two(k.op) != r.Mod {
			t.Errorf("Two(%02x) is %t, its row at %d has %t", k.op, Two(k.op), k.reg, r.Mod)
		}
	}
}

func TestRepeats(t *testing.T) {
	for at, name := range strings.Fields(names) {
		want := 0
		if place("MOVSB MOVSW STOSB STOSW LODSB LODSW", name) >= 0 {
			want = 1
		}
		if place("CMPSB CMPSW SCASB SCASW", name) >= 0 {
			want = 2
		}
		if got := Repeats(at + 1); got != want {
			t.Errorf("Repeats of %s is %d, want %d", name, got, want)
		}
	}
	for _, n := range strange() {
		if got := Repeats(n); got != 0 {
			t.Errorf("Repeats(%d) is %d", n, got)
		}
	}
}

func TestImmediate(t *testing.T) {
	for op, name := range strings.Fields(operands) {
		want := 0
		switch name {
		case "Ib", "Is", "Jb":
			want = 1
		case "Iv", "Jv", "Ob", "Ov":
			want = 2
		case "Ap":
			want = 4
		}
		if got := Immediate(op); got != want {
			t.Errorf("Immediate of %s is %d, want %d", name, got, want)
		}
	}
	for _, n := range append(strange(), 25, 26, -6, -11) {
		if got := Immediate(n); got != 0 {
			t.Errorf("Immediate(%d) is %d", n, got)
		}
	}
}

func TestMemory(t *testing.T) {
	for op, name := range strings.Fields(operands) {
		if want := place("Eb Ev Mp M", name) >= 0; Memory(op) != want {
			t.Errorf("Memory of %s is %t", name, !want)
		}
	}
	for _, n := range append(strange(), 25, 26, -2, -19, -20) {
		if Memory(n) {
			t.Errorf("Memory(%d) is true", n)
		}
	}
}
