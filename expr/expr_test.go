package expr

import (
	"math"
	"testing"

	"hansom/api"
	"hansom/value"
)

var all = []string{"AL", "CL", "DL", "BL", "AH", "CH", "DH", "BH", "AX", "CX", "DX", "BX", "SP", "BP", "SI", "DI", "ES", "CS", "SS", "DS"}

// register is the operand of a register, by its number among 20.
func register(n int) api.Operand {
	switch {
	case n < 8:
		return api.Operand{Kind: api.OpdReg8, N: n}
	case n < 16:
		return api.Operand{Kind: api.OpdReg, N: n - 8}
	}
	return api.Operand{Kind: api.OpdSeg, N: n - 16}
}

func TestRegister(t *testing.T) {
	for n, s := range all {
		if got := Register(s); got != n {
			t.Errorf("Register(%q): %d, not %d", s, got, n)
		}
	}
	for _, s := range []string{"", "A", "X", "XX", "AXX", " AX", "AX ", "ax", "Ax", "aX", "al", "es", "ds", "EX", "EAX", "IP", "FS", "GS", "SH", "SL", "BXSI", "AX,", "PTR", "OFFSET", "$", "?", "XB", "0", "AL\x00", "ＡＸ"} {
		if got := Register(s); got != -1 {
			t.Errorf("Register(%q): %d, though there is none", s, got)
		}
	}
	// Each text of two letters.
	for a := range 256 {
		for b := range 256 {
			s, want := string([]byte{byte(a), byte(b)}), -1
			for n, r := range all {
				if r == s {
					want = n
				}
			}
			if got := Register(s); got != want {
				t.Errorf("Register(%q): %d, not %d", s, got, want)
			}
		}
	}
}

func TestRegistersAlone(t *testing.T) {
	for n, s := range all {
		want := register(n)
		wantOperand(t, s, want)
		wantOperand(t, "("+s+")", want)
		wantOperand(t, "(("+s+"))", want)
		for _, wrong := range []string{s + "+1", "1+" + s, s + "-1", "1-" + s, s + "*2", "2*" + s, s + " AND 1", "1 OR " + s, s + "+XW", "XW+" + s, s + "-" + s, s + "+" + s, s + "+[BX]", "[BX]+" + s, "[4]-" + s, s + "-[4]", "(" + s + ")+1", "1+(" + s + ")", s + "[BX]", s + "[4]", "4[" + s + "]+AX", "(" + s + ")[4]", s + " EQ " + s, s + " MOD 2", s + " SHL 1"} {
			wantWrong(t, wrong, api.ErrForm)
		}
		for _, ahead := range []string{"+", "-", "OFFSET ", "SEG ", "NOT "} {
			wantWrong(t, ahead+s, api.ErrForm)
			wantWrong(t, ahead+"("+s+")", api.ErrForm)
		}
		for _, ahead := range []string{"SHORT ", "BYTE PTR ", "WORD PTR ", "DWORD PTR ", "NEAR PTR ", "FAR PTR ", "ES:", "CS:", "SS:", "DS:", "SHORT WORD PTR ES:"} {
			wantOperand(t, ahead+s, want)
			wantOperand(t, ahead+"("+s+")", want)
			wantWrong(t, ahead+s+"+1", api.ErrForm)
		}
	}
	for _, s := range []string{"AX BX", "AX,BX", "AX:1", "AX:BX", "BX:[SI]", "AL:4", "AX AX", "AX 1", "AX XW", "AX PTR", "AX.", "AX="} {
		wantWrong(t, s, api.ErrForm)
	}
}

// A register's name stays one, and $ where the line is, whatever the table says of them; so do words.
func TestNamesOfTheirOwn(t *testing.T) {
	table := api.Table{Here: here}
	for _, s := range append([]string{"$", "OFFSET", "SEG", "NOT", "SHORT", "BYTE", "WORD", "DWORD", "NEAR", "FAR", "PTR", "AND", "MOD", "EQ"}, all...) {
		table.Names = append(table.Names, s)
		table.Values = append(table.Values, words)
	}
	for n, s := range all {
		wantPieces(t, s, pieces(t, s), table, register(n))
	}
	wantPieces(t, "$", pieces(t, "$"), table, imm(here))
	for _, s := range []string{"OFFSET", "SEG", "NOT", "SHORT", "BYTE", "WORD", "DWORD", "NEAR", "FAR", "PTR", "AND", "MOD", "EQ"} {
		wantNoPieces(t, s, pieces(t, s), table, api.ErrForm)
	}
	wantPieces(t, "[BX]", pieces(t, "[BX]"), table, mem(7, value.Num(0)))
	wantNoPieces(t, "[AX]", pieces(t, "[AX]"), table, api.ErrForm)
	wantPieces(t, "ES:4", pieces(t, "ES:4"), table, in(number(4), api.ES))
}

func TestNumbers(t *testing.T) {
	for _, c := range []struct {
		n    uint64
		want int
	}{
		{0, 0}, {1, 1}, {5, 5}, {255, 255}, {256, 256}, {65535, 65535}, {65536, 65536}, {most, most}, {most + 1, least}, {1<<32 - 1, -1}, {1 << 32, 0}, {1<<32 + 1, 1}, {1<<53 - 1, -1}, {1 << 53, 0}, {1<<63 - 1, -1}, {1 << 63, 0}, {1<<63 + 1<<31, least}, {math.MaxUint64, -1},
	} {
		wantPieces(t, "a number", []api.Token{num(c.n)}, told(), number(c.want))
	}
	wantOperand(t, "12H", number(18))
	wantOperand(t, "(12)", number(12))
	wantOperand(t, "((12))", number(12))
	// What else a number's piece has tells nothing.
	wantPieces(t, "12", []api.Token{{Kind: api.TokNum, S: "AX", N: 12, D: 5}}, told(), number(12))
}

func TestTexts(t *testing.T) {
	for _, c := range []struct {
		s    string
		want int
	}{
		{"A", 0x41}, {"a", 0x61}, {"AB", 0x4142}, {"BA", 0x4241}, {" ", 0x20}, {"  ", 0x2020}, {" A", 0x2041}, {"A ", 0x4120}, {"'", 0x27}, {"\"'", 0x2227}, {"~~", 0x7e7e}, {"12", 0x3132}, {"AX", 0x4158}, {"\x00", 0}, {"\x00\x01", 1}, {"\x80", 0x80}, {"\xff\xff", 0xffff}, {"é", 0xc3a9},
	} {
		wantPieces(t, c.s, []api.Token{text(c.s)}, told(), number(c.want))
		wantPieces(t, c.s+"+1", []api.Token{text(c.s), sign("+"), num(1)}, told(), number(c.want+1))
	}
	for _, s := range []string{"", "ABC", "   ", "ABCD", "aé", "€", "\x00\x00\x00", "A very long text"} {
		wantNoPieces(t, s, []api.Token{text(s)}, told(), api.ErrForm)
		wantNoPieces(t, s+"+1", []api.Token{text(s), sign("+"), num(1)}, told(), api.ErrForm)
	}
	wantOperand(t, "'A'", number(0x41))
	wantOperand(t, "'AB'-'AA'", number(1))
	wantOperand(t, "[BX+'A']", mem(7, value.Num(0x41)))
}

func TestNames(t *testing.T) {
	table := told()
	for i, v := range table.Values {
		want := imm(v)
		if v.From != api.FromNone && v.Wants == api.WantsAll && v.Type != api.TypeNear && v.Type != api.TypeFar {
			want = mem(8, v)
		}
		wantOperand(t, table.Names[i], want)
		wantOperand(t, "("+table.Names[i]+")", want)
	}
	wantOperand(t, "XW", mem(8, words))
	wantOperand(t, "LN", imm(nears))
	wantOperand(t, "FIVE", imm(five))
	wantOperand(t, "$", imm(here))
	wantOperand(t, "$+3", imm(farther(here, 3)))
	for _, s := range []string{"LOST", "NEVER", "XBB", "X", "_", "?", "@", "$$", "$A", "A$", "EAX", "AXE", "DUP"} {
		wantOperand(t, s, imm(unknown(0)))
		wantOperand(t, s+"+3", imm(unknown(3)))
		wantOperand(t, "["+s+"+BX]", mem(7, unknown(0)))
	}
	// Small letters are others than great ones.
	wantPieces(t, "xw", []api.Token{name("xw")}, told(), imm(unknown(0)))
	wantPieces(t, "ax", []api.Token{name("ax")}, told(), imm(unknown(0)))
	wantPieces(t, "no name", []api.Token{name("")}, told(), imm(unknown(0)))
	wantPieces(t, "+ as a name", []api.Token{name("+")}, told(), imm(unknown(0)))
	wantPieces(t, "[ as a name", []api.Token{name("[")}, told(), imm(unknown(0)))
	wantPieces(t, "XW with more", []api.Token{{Kind: api.TokName, S: "XW", N: 7, D: 8}}, told(), mem(8, words))
}

// Of each kind and type, and of what each is wanted.
func TestNamesOfEachKind(t *testing.T) {
	for from := -1; from <= api.FromExt+1; from++ {
		for _, kind := range []int{api.TypeNone, api.TypeByte, api.TypeWord, api.TypeLong, api.TypeQuad, api.TypeNear, api.TypeFar, -1, 3, 100, 103} {
			for wanted := -1; wanted <= api.WantsSeg+1; wanted++ {
				for _, known := range []bool{false, true} {
					v := api.Value{N: 17, From: from, Which: 2, Type: kind, Wants: wanted, Known: known}
					table := api.Table{Names: []string{"X"}, Values: []api.Value{v}, Here: v}
					want := imm(v)
					if from != api.FromNone && wanted == api.WantsAll && kind != api.TypeNear && kind != api.TypeFar {
						want.Kind = api.OpdMem
					}
					for _, s := range []string{"X", "(X)", "$"} {
						wantPieces(t, s, pieces(t, s), table, want)
					}
					more := want
					more.V.N += 3
					wantPieces(t, "X+3", pieces(t, "X+3"), table, more)
					want.Kind = api.OpdMem
					wantPieces(t, "[X]", pieces(t, "[X]"), table, want)
					want.RM = 7
					wantPieces(t, "X[BX]", pieces(t, "X[BX]"), table, want)
				}
			}
		}
	}
}

// A table may lack anything.
func TestTables(t *testing.T) {
	for _, table := range []api.Table{{}, {Names: []string{}, Values: []api.Value{}}, {Names: []string{"X"}}, {Names: []string{"X", "X"}}, {Values: []api.Value{words}}, {Names: []string{"Y", "X"}, Values: []api.Value{words}}} {
		wantPieces(t, "X", pieces(t, "X"), table, imm(unknown(0)))
		wantPieces(t, "$", pieces(t, "$"), table, imm(unknown(0)))
		wantPieces(t, "[X]", pieces(t, "[X]"), table, mem(8, unknown(0)))
		wantPieces(t, "SEG X", pieces(t, "SEG X"), table, imm(wants(unknown(0), api.WantsSeg)))
		wantPieces(t, "5", pieces(t, "5"), table, number(5))
	}
	table := api.Table{Names: []string{"Y", "X", "Z"}, Values: []api.Value{words, nears}}
	wantPieces(t, "Y", pieces(t, "Y"), table, mem(8, words))
	wantPieces(t, "X", pieces(t, "X"), table, imm(nears))
	wantPieces(t, "Z", pieces(t, "Z"), table, imm(unknown(0)))
	table = api.Table{Names: []string{"Y"}, Values: []api.Value{words, nears, fars}}
	wantPieces(t, "Y", pieces(t, "Y"), table, mem(8, words))
	// Of one name that is told twice the first one counts.
	table = api.Table{Names: []string{"Y", "Y"}, Values: []api.Value{words, nears}}
	wantPieces(t, "Y", pieces(t, "Y"), table, mem(8, words))
	table = api.Table{Names: []string{""}, Values: []api.Value{five}}
	wantPieces(t, "no name", []api.Token{name("")}, table, imm(five))
}

func TestNumberByHand(t *testing.T) {
	for _, c := range []struct {
		s    string
		want api.Value
	}{
		{"5", value.Num(5)}, {"(5)", value.Num(5)}, {"2+3*4", value.Num(14)}, {"'AB'", value.Num(0x4142)}, {"-1", value.Num(-1)},
		{"XW", words}, {"XB+2", farther(bytes, 2)}, {"LN", nears}, {"LF", fars}, {"$", here}, {"PLAIN", bare}, {"EXT", taken},
		{"OFFSET XW", wants(words, api.WantsOff)}, {"SEG XW", wants(words, api.WantsSeg)}, {"PARA", para}, {"XW-XB", value.Num(6)},
		{"NEVER", unknown(0)}, {"LOST", unknown(0)}, {"LATER", later}, {"NEVER+FIVE", unknown(5)}, {"SEG NEVER", wants(unknown(0), api.WantsSeg)},
		{"[5]", value.Num(5)}, {"[XW]", words}, {"[XW+2]", farther(words, 2)}, {"XW[2]", farther(words, 2)}, {"[NEVER]", unknown(0)}, {"[2][3]", value.Num(5)},
		{"BYTE PTR 5", value.Num(5)}, {"BYTE PTR XW", words}, {"BYTE PTR [5]", value.Num(5)}, {"FAR PTR XW", words}, {"SHORT LN", nears}, {"SHORT [5]", value.Num(5)},
		{"ES:5", value.Num(5)}, {"ES:LN", nears}, {"DS:OFFSET XW", wants(words, api.WantsOff)}, {"CS:NEVER", unknown(0)},
	} {
		if got, e := Number(pieces(t, c.s), told()); got != c.want || e != api.OK {
			t.Errorf("Number of %s: %+v, %d, not %+v", c.s, got, e, c.want)
		}
	}
	for _, s := range append([]string{
		"[BX]", "[BP]", "[SI]", "[DI]", "[BX+SI]", "[BP+DI+4]", "XW[BX]", "5[SI]", "[NEVER+BX]", "WORD PTR [DI]", "ES:[BX]",
		"ES:[5]", "CS:[5]", "SS:[5]", "DS:[5]", "ES:XW", "DS:XW", "ES:[XW]", "[ES:5]", "DS:XW[2]", "ES:PLAIN", "SHORT ES:XW", "CS:WORD PTR LN", "[CS:NEVER]",
		"(AX)", "WORD PTR AX", "ES:AX",
	}, all...) {
		if got, e := Number(pieces(t, s), told()); got != (api.Value{}) || e != api.ErrForm {
			t.Errorf("Number of %s: %+v, %d, though it has none", s, got, e)
		}
		if _, e := Operand(pieces(t, s), told()); e != api.OK {
			t.Errorf("%s: %d, though it is an operand", s, e)
		}
	}
}
