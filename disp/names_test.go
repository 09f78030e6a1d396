package disp

import (
	"math"
	"strings"
	"testing"

	"hansom/api"
)

// named is the names as the chapter of the table of instructions tells them, each by its own number.
func named() map[int]string {
	m := map[int]string{
		api.ADD: "ADD", api.OR: "OR", api.ADC: "ADC", api.SBB: "SBB", api.AND: "AND", api.SUB: "SUB", api.XOR: "XOR", api.CMP: "CMP",
		api.PUSH: "PUSH", api.POP: "POP", api.DAA: "DAA", api.DAS: "DAS", api.AAA: "AAA", api.AAS: "AAS", api.INC: "INC", api.DEC: "DEC",
		api.TEST: "TEST", api.XCHG: "XCHG", api.MOV: "MOV", api.LEA: "LEA", api.CBW: "CBW", api.CWD: "CWD",
		api.CALL: "CALL", api.CALLF: "CALLF", api.WAIT: "WAIT", api.PUSHF: "PUSHF", api.POPF: "POPF", api.SAHF: "SAHF", api.LAHF: "LAHF",
		api.MOVSB: "MOVSB", api.MOVSW: "MOVSW", api.CMPSB: "CMPSB", api.CMPSW: "CMPSW", api.STOSB: "STOSB", api.STOSW: "STOSW",
		api.LODSB: "LODSB", api.LODSW: "LODSW", api.SCASB: "SCASB", api.SCASW: "SCASW",
		api.RET: "RET", api.RETF: "RETF", api.LES: "LES", api.LDS: "LDS", api.INT: "INT", api.INTO: "INTO", api.IRET: "IRET",
		api.ROL: "ROL", api.ROR: "ROR", api.RCL: "RCL", api.RCR: "RCR", api.SHL: "SHL", api.SHR: "SHR", api.SAR: "SAR",
		api.AAM: "AAM", api.AAD: "AAD", api.XLAT: "XLAT", api.ESC: "ESC",
		api.LOOPNZ: "LOOPNZ", api.LOOPZ: "LOOPZ", api.LOOP: "LOOP", api.JCXZ: "JCXZ", api.IN: "IN", api.OUT: "OUT",
		api.JMP: "JMP", api.JMPF: "JMPF", api.HLT: "HLT", api.CMC: "CMC",
		api.NOT: "NOT", api.NEG: "NEG", api.MUL: "MUL", api.IMUL: "IMUL", api.DIV: "DIV", api.IDIV: "IDIV",
		api.CLC: "CLC", api.STC: "STC", api.CLI: "CLI", api.STI: "STI", api.CLD: "CLD", api.STD: "STD",
	}
	for k, s := range jumps() {
		m[api.JO+k] = s
	}
	return m
}

// jumps is those that ask flags, in their codes' order.
func jumps() []string {
	return []string{"JO", "JNO", "JB", "JNB", "JZ", "JNZ", "JBE", "JA", "JS", "JNS", "JP", "JNP", "JL", "JGE", "JLE", "JG"}
}

// far is numbers that are none of anything.
func far() []int {
	return []int{math.MinInt, math.MinInt + 1, math.MinInt32, -257, -256, -2, -1, api.Names + 1, api.Names + 2, 128, 255, 256, 257, 1 << 16, math.MaxInt32, 1 << 32, math.MaxInt - 1, math.MaxInt}
}

func TestName(t *testing.T) {
	m := named()
	if len(m) != api.Names {
		t.Fatalf("%d names stand here, and there are %d", len(m), api.Names)
	}
	for n := -300; n <= 300; n++ {
		want, ok := m[n]
		if !ok {
			want = "?"
		}
		if got := Name(n); got != want {
			t.Errorf("Name(%d) is %q; asked %q", n, got, want)
		}
	}
	for _, n := range far() {
		if got := Name(n); got != "?" {
			t.Errorf("Name(%d) is %q, and there is none", n, got)
		}
	}
}

func TestFind(t *testing.T) {
	for n, s := range named() {
		if got := Find(s); got != n {
			t.Errorf("Find(%q) is %d; asked %d", s, got, n)
		}
		if got := Find(Name(n)); got != n {
			t.Errorf("Find(Name(%d)) is %d", n, got)
		}
	}
}

// TestFindNone asks for what is no name: names in other letters, with something ahead or behind, and parts of them, unless that is one as well.
func TestFindNone(t *testing.T) {
	is := map[string]int{}
	for n, s := range named() {
		is[s] = n
	}
	none := []string{
		"", "?", "??", " ", "\x00", "\t", "\n", "A", "J", "NOP", "JE", "JNE", "JC", "JAE", "JNC", "LOOPE", "LOOPNE", "SAL", "REP", "REPNE", "LOCK", "DB", "AX", "AL", "ES",
		"ADD OR", "OR ADC", "? ADD", "INC DEC JO", "CMC NOT", "0", "1", "ADD\x00", "\xff", "ÄDD", "АDD", "ＡＤＤ", "JS\u017f", strings.Repeat("ADD", 1000),
	}
	for s := range is {
		none = append(none, strings.ToLower(s), s[:1]+strings.ToLower(s[1:]), strings.ToLower(s[:1])+s[1:])
		for _, more := range []string{" ", "\t", "\n", "\r", "?", ".", ",", ":", "X", "0", "\x00", s} {
			none = append(none, more+s, s+more)
		}
		for k := range s {
			none = append(none, s[:k], s[k+1:], s[:k]+" "+s[k:])
		}
	}
	for _, s := range none {
		if got := Find(s); got != is[s] {
			t.Errorf("Find(%q) is %d; asked %d", s, got, is[s])
		}
	}
}

func TestRegisters(t *testing.T) {
	cases := []struct {
		what string
		name func(int) string
		is   map[int]string
	}{
		{"Reg", Reg, map[int]string{api.AX: "AX", api.CX: "CX", api.DX: "DX", api.BX: "BX", api.SP: "SP", api.BP: "BP", api.SI: "SI", api.DI: "DI"}},
		{"Byte", Byte, map[int]string{0: "AL", 1: "CL", 2: "DL", 3: "BL", 4: "AH", 5: "CH", 6: "DH", 7: "BH"}},
		{"Seg", Seg, map[int]string{api.ES: "ES", api.CS: "CS", api.SS: "SS", api.DS: "DS"}},
	}
	for _, c := range cases {
		numbers := far()
		for n := -20; n <= 20; n++ {
			numbers = append(numbers, n)
		}
		for _, n := range numbers {
			want, ok := c.is[n]
			if !ok {
				want = "?"
			}
			if got := c.name(n); got != want {
				t.Errorf("%s(%d) is %q; asked %q", c.what, n, got, want)
			}
		}
	}
}
