package disp

import (
	"fmt"
	"strconv"
	"strings"
	"testing"

	"hansom/api"
	"hansom/inst"
)

// table is the instructions as the chapter tells them, but the sums: their first bytes (and middles of the second one), names, and operands.
// Several names are for as many bytes, or middles; a name with + is for all of them.
const table = `
06+8*4 PUSH+ Zs; 07 POP Zs; 17 POP Zs; 1F POP Zs; 27 DAA; 2F DAS; 37 AAA; 3F AAS
40-47 INC+ Zv; 48-4F DEC+ Zv; 50-57 PUSH+ Zv; 58-5F POP+ Zv
70-7F JO JNO JB JNB JZ JNZ JBE JA JS JNS JP JNP JL JGE JLE JG Jb
80/01234567 ADD OR ADC SBB AND SUB XOR CMP Eb,Ib; 81/01234567 ADD OR ADC SBB AND SUB XOR CMP Ev,Iv; 83/02357 ADD ADC SBB SUB CMP Ev,Is
84 TEST Eb,Gb; 85 TEST Ev,Gv; 86 XCHG Eb,Gb; 87 XCHG Ev,Gv
88 MOV Eb,Gb; 89 MOV Ev,Gv; 8A MOV Gb,Eb; 8B MOV Gv,Ev; 8C/0123 MOV+ Ev,Sw; 8E/023 MOV+ Sw,Ev
8D LEA Gv,M; 8F/0 POP Ev; 90-97 XCHG+ AX,Zv; 98 CBW; 99 CWD; 9A CALLF Ap; 9B WAIT
9C PUSHF; 9D POPF; 9E SAHF; 9F LAHF; A0 MOV AL,Ob; A1 MOV AX,Ov; A2 MOV Ob,AL; A3 MOV Ov,AX
A4-A7 MOVSB MOVSW CMPSB CMPSW; A8 TEST AL,Ib; A9 TEST AX,Iv; AA-AF STOSB STOSW LODSB LODSW SCASB SCASW
B0-B7 MOV+ Zb,Ib; B8-BF MOV+ Zv,Iv; C2 RET Iv; C3 RET; C4 LES Gv,Mp; C5 LDS Gv,Mp
C6/0 MOV Eb,Ib; C7/0 MOV Ev,Iv; CA RETF Iv; CB RETF; CC INT Three; CD INT Ib; CE INTO; CF IRET
D0/0123457 ROL ROR RCL RCR SHL SHR SAR Eb,One; D1/0123457 ROL ROR RCL RCR SHL SHR SAR Ev,One
D2/0123457 ROL ROR RCL RCR SHL SHR SAR Eb,CL; D3/0123457 ROL ROR RCL RCR SHL SHR SAR Ev,CL
D4 AAM Ib; D5 AAD Ib; D7 XLAT; D8-DF ESC+ Ev
E0-E3 LOOPNZ LOOPZ LOOP JCXZ Jb; E4 IN AL,Ib; E5 IN AX,Ib; E6 OUT Ib,AL; E7 OUT Ib,AX
E8 CALL Jv; E9 JMP Jv; EA JMPF Ap; EB JMP Jb; EC IN AL,DX; ED IN AX,DX; EE OUT DX,AL; EF OUT DX,AX
F4 HLT; F5 CMC; F6/0 TEST Eb,Ib; F7/0 TEST Ev,Iv; F6/234567 NOT NEG MUL IMUL DIV IDIV Eb; F7/234567 NOT NEG MUL IMUL DIV IDIV Ev
F8-FD CLC STC CLI STI CLD STD; FE/01 INC DEC Eb; FF/01 INC DEC Ev; FF/2 CALL Ev; FF/3 CALLF Mp; FF/4 JMP Ev; FF/5 JMPF Mp; FF/6 PUSH Ev
`

// sums is the forms of the first eight, six bytes each.
const sums = "Eb,Gb Ev,Gv Gb,Eb Gv,Ev AL,Ib AX,Iv"

// model is an instruction's name, and its operands as the chapter tells them; of none the name is "".
type model struct {
	name string
	ops  []string
}

type models [256][8]model

// put lets an instruction stand in the table; with no middle it stands at all of them.
func (m *models) put(t *testing.T, op int, middles, name, ops string) {
	if middles == "" {
		middles = "01234567"
	}
	for _, c := range middles {
		at := &m[op][c-'0']
		if at.name != "" {
			t.Fatalf("%02X/%c stands twice", op, c)
		}
		at.name = name
		if ops != "" {
			at.ops = strings.Split(ops, ",")
		}
	}
}

// span is the first bytes that an entry tells.
func span(t *testing.T, s string) (l []int) {
	if s == "06+8*4" {
		return []int{0x06, 0x0e, 0x16, 0x1e}
	}
	from, to, many := strings.Cut(s, "-")
	if !many {
		to = from
	}
	a, errA := strconv.ParseUint(from, 16, 8)
	b, errB := strconv.ParseUint(to, 16, 8)
	if errA != nil || errB != nil {
		t.Fatalf("%q is no first byte", s)
	}
	for op := a; op <= b; op++ {
		l = append(l, int(op))
	}
	return l
}

// entry lets what an entry tells stand in the table.
func (m *models) entry(t *testing.T, entry string) {
	f := strings.Fields(entry)
	bytes, middles, _ := strings.Cut(f[0], "/")
	ops, names, l := "", f[1:], span(t, bytes)
	// Operands are told with small letters, or a comma; names are not.
	if last := f[len(f)-1]; strings.ContainsAny(last, ",abcdefghijklmnopqrstuvwxyz") || last == "M" {
		ops, names = last, f[1:len(f)-1]
	}
	all, same := strings.CutSuffix(names[0], "+")
	if !same && len(names) != max(len(l), len(middles)) {
		t.Fatalf("%q has %d names", entry, len(names))
	}
	for k, op := range l {
		switch {
		case same:
			m.put(t, op, middles, all, ops)
		case middles == "":
			m.put(t, op, "", names[k], ops)
		default:
			for k, c := range middles {
				m.put(t, op, string(c), names[k], ops)
			}
		}
	}
}

// readTable is the table of all first bytes and middles.
func readTable(t *testing.T) *models {
	m := &models{}
	for n, name := range []string{"ADD", "OR", "ADC", "SBB", "AND", "SUB", "XOR", "CMP"} {
		for k, ops := range strings.Fields(sums) {
			m.put(t, 8*n+k, "", name, ops)
		}
	}
	for _, e := range strings.Split(strings.ReplaceAll(strings.TrimSpace(table), "\n", ";"), ";") {
		m.entry(t, e)
	}
	return m
}

func reg(n int) string { return []string{"AX", "CX", "DX", "BX", "SP", "BP", "SI", "DI"}[n] }

func half(n int) string { return []string{"AL", "CL", "DL", "BL", "AH", "CH", "DH", "BH"}[n] }

func seg(n int) string { return []string{"ES", "CS", "SS", "DS"}[n] }

// asked is the text that is asked for of an instruction that may be.
func (m model) asked(i api.Inst) string {
	words := []string{}
	if i.Lock {
		words = append(words, "LOCK")
	}
	if i.Rep == 1 {
		words = append(words, "REPNE")
	}
	if i.Rep == 2 {
		words = append(words, "REP")
	}
	words = append(words, m.name)
	ops := []string{}
	for _, op := range m.ops {
		ops = append(ops, askedOperand(i, op))
	}
	if len(ops) > 0 {
		words = append(words, strings.Join(ops, ","))
	}
	return strings.Join(words, " ")
}

func askedOperand(i api.Inst, op string) string {
	switch op {
	case "Eb":
		if i.Mod == 3 {
			return half(i.RM)
		}
		return "BYTE " + askedPlace(i)
	case "Ev":
		if i.Mod == 3 {
			return reg(i.RM)
		}
		return "WORD " + askedPlace(i)
	case "Mp":
		return "FAR " + askedPlace(i)
	case "M":
		return askedPlace(i)
	case "Ob":
		return "BYTE " + askedSegment(i) + fmt.Sprintf("[%04X]", i.Imm)
	case "Ov":
		return "WORD " + askedSegment(i) + fmt.Sprintf("[%04X]", i.Imm)
	case "Gb":
		return half(i.Reg)
	case "Gv":
		return reg(i.Reg)
	case "Sw":
		return seg(i.Reg)
	case "Zb":
		return half(int(i.Op) % 8)
	case "Zv":
		return reg(int(i.Op) % 8)
	case "Zs":
		return seg(int(i.Op) / 8)
	case "Ib":
		return fmt.Sprintf("%02X", i.Imm)
	case "Iv", "Is":
		return fmt.Sprintf("%04X", i.Imm)
	case "Jb", "Jv":
		return fmt.Sprintf("%+05X", int16(i.Imm))
	case "Ap":
		return fmt.Sprintf("%04X:%04X", i.Sel, i.Imm)
	case "One":
		return "1"
	case "Three":
		return "3"
	}
	return op
}

func askedSegment(i api.Inst) string {
	if i.Seg == 0 {
		return ""
	}
	return seg(i.Seg-1) + ":"
}

// askedPlace is where something is in memory, as the chapter of places tells which registers count.
func askedPlace(i api.Inst) string {
	parts := [][]string{{"BX", "SI"}, {"BX", "DI"}, {"BP", "SI"}, {"BP", "DI"}, {"SI"}, {"DI"}, {"BP"}, {"BX"}}[i.RM]
	there := strings.Join(parts, "+")
	switch {
	case i.Mod == 0 && i.RM == 6:
		there = fmt.Sprintf("%04X", i.Disp)
	case i.Mod == 1:
		there += fmt.Sprintf("%+03X", int16(i.Disp))
	case i.Mod == 2:
		there += fmt.Sprintf("+%04X", i.Disp)
	}
	return askedSegment(i) + "[" + there + "]"
}

// check holds a text against the table; false: there is no such instruction.
func (m *models) check(t *testing.T, i api.Inst) bool {
	t.Helper()
	want := "?"
	may := inst.May(i)
	if may {
		at := m[i.Op][i.Reg]
		if at.name == "" {
			t.Fatalf("%+v stands in no table", i)
		}
		want = at.asked(i)
	}
	if got := Text(i); got != want {
		t.Fatalf("%+v is %q; asked %q", i, got, want)
	}
	return may
}

// numbers are at the edges of signs and of digits.
func numbers() []uint16 {
	return []uint16{0, 1, 9, 0x0a, 0x0f, 0x10, 0x7f, 0x80, 0xff, 0x100, 0x0fff, 0x1000, 0x1234, 0x7fff, 0x8000, 0x8001, 0xabcd, 0xff7f, 0xff80, 0xfffe, 0xffff}
}

// TestSecond is each first byte with each second one, and each number that tells how far from there; what stands behind is drawn on.
func TestSecond(t *testing.T) {
	m := readTable(t)
	many := 0
	for op := range 256 {
		for second := range 256 {
			for k, d := range numbers() {
				i := api.Inst{Op: byte(op), Mod: second / 64, Reg: second / 8 % 8, RM: second % 8, Disp: d, Seg: (second + k) % 5}
				for _, imm := range []uint16{0, numbers()[(second+k)%len(numbers())]} {
					i.Imm = imm
					if m.check(t, i) {
						many++
					}
				}
			}
		}
	}
	if many == 0 {
		t.Error("none of them may be")
	}
}

// TestBehind is each first byte with each middle, and each number behind.
func TestBehind(t *testing.T) {
	m := readTable(t)
	for op := range 256 {
		may := false
		for mid := range 8 {
			for _, mod := range []int{0, 3} {
				for _, imm := range numbers() {
					for _, sel := range []uint16{0, 0x0001, 0x00ab, 0xffff} {
						ok := m.check(t, api.Inst{Op: byte(op), Mod: mod, Reg: mid, RM: 4, Imm: imm, Sel: sel})
						may = m.check(t, api.Inst{Op: byte(op), Imm: imm, Sel: sel}) || ok || may
					}
				}
				may = m.check(t, api.Inst{Op: byte(op), Reg: mid, Mod: mod, Imm: 10}) || may
			}
		}
		may = m.check(t, api.Inst{Op: byte(op), Imm: 10}) || may
		stands := false
		for _, at := range m[op] {
			stands = stands || at.name != ""
		}
		if may != stands {
			t.Errorf("%02X: it stands in the table: %t; some of it may be: %t", op, stands, may)
		}
	}
}

// TestJumpsAll is each number that tells how far a jump goes.
func TestJumpsAll(t *testing.T) {
	m := readTable(t)
	for n := range 1 << 16 {
		m.check(t, api.Inst{Op: 0xe9, Imm: uint16(n)})
		m.check(t, api.Inst{Op: 0x7f, Imm: uint16(n)})
		m.check(t, api.Inst{Op: 0x88, Mod: 1, RM: n % 8, Disp: uint16(n)})
	}
}

// TestAhead is each first byte with all prefixes, those that are none, too.
func TestAhead(t *testing.T) {
	m := readTable(t)
	for op := range 256 {
		for mid := range 8 {
			for _, mod := range []int{0, 3} {
				for rep := -1; rep <= 3; rep++ {
					for s := -1; s <= 5; s++ {
						for _, imm := range []uint16{0, 10} {
							i := api.Inst{Op: byte(op), Mod: mod, Reg: mid, RM: 1, Imm: imm, Rep: rep, Seg: s}
							m.check(t, i)
							i.Lock = true
							m.check(t, i)
							i.Mod, i.Reg, i.RM = 0, 0, 0
							m.check(t, i)
						}
					}
				}
			}
		}
	}
}
