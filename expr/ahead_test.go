package expr

import (
	"testing"

	"hansom/api"
	"hansom/value"
)

func TestSigns(t *testing.T) {
	for _, c := range []struct {
		s    string
		want api.Operand
	}{
		{"+5", number(5)}, {"-5", number(-5)}, {"-0", number(0)}, {"- -5", number(5)}, {"-+-5", number(5)}, {"+(5)", number(5)}, {"-(5+1)", number(-6)}, {"-80000000H", number(least)}, {"-7FFFFFFFH", number(-most)}, {"-'A'", number(-0x41)}, {"-FIVE", number(-5)}, {"-MINUS", number(7)},
		{"+XW", mem(8, words)}, {"+LN", imm(nears)}, {"+OFF", imm(offset)}, {"+PARA", imm(para)}, {"+$", imm(here)}, {"+TYPED", imm(typed)}, {"-TYPED", number(-9)}, {"+LATER", mem(8, later)},
		{"-NEVER", imm(unknown(0))}, {"+NEVER", imm(unknown(0))}, {"-(NEVER+5)", imm(unknown(-5))}, {"-(XW-XB)", number(-6)}, {"[-5]", mem(8, value.Num(-5))}, {"[BX+-5]", mem(7, value.Num(-5))}, {"[BX]+-5", mem(7, value.Num(-5))}, {"[BX - -5]", mem(7, value.Num(5))}, {"[+5+BX]", mem(7, value.Num(5))},
	} {
		wantOperand(t, c.s, c.want)
	}
	for _, s := range []string{"-XW", "-LN", "-OFF", "-PARA", "-$", "-LATER", "-[BX]", "+[BX]", "-[4]", "+[4]", "-XW[2]", "+XW[BX]", "[-BX]", "[+BX]", "[4-BX]", "[4+-BX]", "[4+ +SI]", "-OFFSET XW", "-SEG XW", "-", "+", "- -", "5+", "5-", "-+", "+-"} {
		wantWrong(t, s, api.ErrForm)
	}
}

func TestNot(t *testing.T) {
	for _, c := range []struct {
		s    string
		want api.Operand
	}{
		{"NOT 0", number(-1)}, {"NOT 5", number(-6)}, {"NOT -1", number(0)}, {"NOT 7FFFFFFFH", number(least)}, {"NOT 80000000H", number(most)}, {"NOT (1 EQ 1)", number(0)}, {"NOT FIVE", number(-6)}, {"NOT NEVER", imm(unknown(-1))}, {"NOT TYPED", number(-10)}, {"NOT (XW-XB)", number(-7)}, {"NOT 'A'", number(-0x42)}, {"NOT NOT 5", number(5)}, {"[NOT 0]", mem(8, value.Num(-1))},
	} {
		wantOperand(t, c.s, c.want)
	}
	for _, s := range []string{"NOT XW", "NOT LN", "NOT OFF", "NOT PARA", "NOT $", "NOT [4]", "NOT [BX]", "[NOT BX]", "NOT XW[2]", "NOT OFFSET XW", "NOT SEG XW", "NOT", "NOT NOT", "NOT ()", "5 NOT", "5 NOT 6"} {
		wantWrong(t, s, api.ErrForm)
	}
}

func TestOffset(t *testing.T) {
	for _, v := range told().Values {
		table := api.Table{Names: []string{"X"}, Values: []api.Value{v}}
		want := imm(wants(v, api.WantsOff))
		for _, s := range []string{"OFFSET X", "OFFSET (X)", "(OFFSET X)", "OFFSET +X", "OFFSET OFFSET X", "OFFSET BYTE PTR X", "OFFSET FAR PTR X", "OFFSET [X]", "OFFSET X[0]"} {
			wantPieces(t, s, pieces(t, s), table, want)
		}
		want.V.N += 2
		for _, s := range []string{"OFFSET X+2", "2+OFFSET X", "OFFSET (X+2)", "OFFSET X[2]", "OFFSET 2[X]", "OFFSET [X+2]"} {
			wantPieces(t, s, pieces(t, s), table, want)
		}
	}
	for _, c := range []struct {
		s    string
		want api.Operand
	}{
		{"OFFSET NEVER", imm(wants(unknown(0), api.WantsOff))}, {"OFFSET LOST", imm(wants(unknown(0), api.WantsOff))}, {"OFFSET $", imm(wants(here, api.WantsOff))}, {"OFFSET LATER", imm(wants(later, api.WantsOff))}, {"OFFSET SEG XW", imm(wants(words, api.WantsOff))}, {"OFFSET PARA", imm(wants(para, api.WantsOff))},
		{"[OFFSET XW]", mem(8, wants(words, api.WantsOff))}, {"[BX+OFFSET XW]", mem(7, wants(words, api.WantsOff))}, {"[OFFSET XW][SI]", mem(4, wants(words, api.WantsOff))}, {"OFFSET XW-OFFSET XB", number(6)},
		{"BYTE PTR OFFSET XW", pointing(imm(wants(words, api.WantsOff)), api.TypeByte)}, {"OFFSET ES:XW", in(imm(wants(words, api.WantsOff)), api.ES)}, {"ES:OFFSET XW", in(imm(wants(words, api.WantsOff)), api.ES)}, {"SHORT OFFSET LN", short(imm(wants(nears, api.WantsOff)))}, {"OFFSET SHORT LN", short(imm(wants(nears, api.WantsOff)))},
	} {
		wantOperand(t, c.s, c.want)
	}
	for _, s := range []string{"OFFSET", "OFFSET [BX]", "OFFSET XW[BX]", "OFFSET XW[SI+2]", "OFFSET (XW[DI])", "[OFFSET BX]", "[OFFSET (BX+2)]", "OFFSET XW+OFFSET XW", "OFFSET XW+XW", "OFFSET XW*2", "OFFSET OFFSET", "XW OFFSET", "OFFSET ()", "OFFSET []", "OFFSET PTR XW", "OFFSET +", "OFFSET AND"} {
		wantWrong(t, s, api.ErrForm)
	}
}

func TestSeg(t *testing.T) {
	for from := api.FromSeg; from <= api.FromExt; from++ {
		for _, kind := range []int{api.TypeNone, api.TypeByte, api.TypeWord, api.TypeLong, api.TypeQuad, api.TypeNear, api.TypeFar} {
			for wanted := api.WantsAll; wanted <= api.WantsSeg; wanted++ {
				for _, known := range []bool{false, true} {
					v := api.Value{N: 17, From: from, Which: 2, Type: kind, Wants: wanted, Known: known}
					table := api.Table{Names: []string{"X"}, Values: []api.Value{v}}
					want := imm(wants(v, api.WantsSeg))
					for _, s := range []string{"SEG X", "SEG (X)", "(SEG X)", "SEG SEG X", "SEG OFFSET X", "SEG WORD PTR X", "SEG [X]", "SEG X[0]", "SEG +X"} {
						wantPieces(t, s, pieces(t, s), table, want)
					}
					want.V.N += 2
					for _, s := range []string{"SEG X+2", "2+SEG X", "SEG (X+2)", "SEG X[2]"} {
						wantPieces(t, s, pieces(t, s), table, want)
					}
				}
			}
		}
	}
	for _, c := range []struct {
		s    string
		want api.Operand
	}{
		{"SEG NEVER", imm(wants(unknown(0), api.WantsSeg))}, {"SEG LOST", imm(wants(unknown(0), api.WantsSeg))}, {"SEG (NEVER+5)", imm(wants(unknown(5), api.WantsSeg))}, {"SEG NEVER+5", imm(wants(unknown(5), api.WantsSeg))}, {"SEG (5*NEVER)", imm(wants(unknown(0), api.WantsSeg))}, {"SEG $", imm(wants(here, api.WantsSeg))}, {"SEG OFFSET NEVER", imm(wants(unknown(0), api.WantsSeg))}, {"SEG [NEVER]", imm(wants(unknown(0), api.WantsSeg))}, {"SEG (LATER-XW)", imm(wants(unknown(-2), api.WantsSeg))},
		{"[SEG XW]", mem(8, wants(words, api.WantsSeg))}, {"[BX+SEG XW]", mem(7, wants(words, api.WantsSeg))}, {"WORD PTR SEG XW", pointing(imm(wants(words, api.WantsSeg)), api.TypeWord)}, {"DS:SEG XW", in(imm(wants(words, api.WantsSeg)), api.DS)}, {"SHORT SEG XW", short(imm(wants(words, api.WantsSeg)))},
	} {
		wantOperand(t, c.s, c.want)
	}
	for _, s := range []string{"SEG", "SEG 5", "SEG 0", "SEG -5", "SEG FIVE", "SEG TYPED", "SEG (XW-XB)", "SEG 'A'", "SEG [5]", "SEG 5+XW", "SEG (5)[XW]+1*AX", "SEG BYTE PTR 5", "SEG ES:5", "SEG OFFSET 5", "SEG NOT 5", "SEG [BX]", "SEG XW[BX]", "SEG [NEVER+BX]", "[SEG BX]", "SEG SEG", "SEG ()", "SEG AX", "SEG ES", "SEG ES:AX", "SEG :", "5 SEG"} {
		wantWrong(t, s, api.ErrForm)
	}
}

func TestShort(t *testing.T) {
	for _, c := range []struct {
		s    string
		want api.Operand
	}{
		{"SHORT LN", short(imm(nears))}, {"SHORT LF", short(imm(fars))}, {"SHORT NEVER", short(imm(unknown(0)))}, {"SHORT 5", short(number(5))}, {"SHORT $", short(imm(here))}, {"SHORT $+2", short(imm(farther(here, 2)))}, {"2+SHORT $", short(imm(farther(here, 2)))}, {"SHORT ($+2)", short(imm(farther(here, 2)))}, {"(SHORT LN)", short(imm(nears))}, {"SHORT SHORT LN", short(imm(nears))},
		{"SHORT XW", short(mem(8, words))}, {"SHORT [BX]", short(mem(7, value.Num(0)))}, {"[SHORT 5]", short(mem(8, value.Num(5)))}, {"SHORT 5*2", short(number(10))}, {"5*SHORT 2", short(number(10))}, {"5-SHORT 2", short(number(3))}, {"-SHORT 2", short(number(-2))}, {"SHORT -2", short(number(-2))}, {"NOT SHORT 2", short(number(-3))}, {"SHORT NEAR PTR LF", short(pointing(imm(fars), api.TypeNear))}, {"NEAR PTR SHORT LF", short(pointing(imm(fars), api.TypeNear))}, {"CS:SHORT LN", short(in(imm(nears), api.CS))},
	} {
		wantOperand(t, c.s, c.want)
	}
	for _, s := range []string{"SHORT", "SHORT SHORT", "SHORT ()", "SHORT +", "LN SHORT", "SHORT LN LN", "SHORT AND", "SHORT PTR LN", "5 SHORT 6", "[SHORT]"} {
		wantWrong(t, s, api.ErrForm)
	}
}

// pointers are the words that tell a type with PTR behind them.
var pointers = []struct {
	word string
	kind int
}{{"BYTE", api.TypeByte}, {"WORD", api.TypeWord}, {"DWORD", api.TypeLong}, {"NEAR", api.TypeNear}, {"FAR", api.TypeFar}}

func TestPointers(t *testing.T) {
	for _, p := range pointers {
		ptr := p.word + " PTR "
		goes := p.kind == api.TypeNear || p.kind == api.TypeFar
		for i, v := range told().Values {
			want := pointing(imm(v), p.kind)
			if v.From != api.FromNone && v.Wants == api.WantsAll && !goes {
				want.Kind = api.OpdMem
			}
			x := told().Names[i]
			for _, s := range []string{ptr + x, ptr + "(" + x + ")", "(" + ptr + x + ")", ptr + "+" + x, ptr + "WORD PTR " + x, ptr + "FAR PTR " + x, ptr + x + "+0"} {
				wantOperand(t, s, want)
			}
			want.Kind = api.OpdMem
			for _, s := range []string{ptr + "[" + x + "]", "[" + ptr + x + "]", ptr + x + "[0]"} {
				wantOperand(t, s, want)
			}
			if v.From == api.FromNone {
				// Of two numbers the first one's type stays in the value.
				want.V.Type = api.TypeNone
			}
			wantOperand(t, ptr+"0["+x+"]", want)
		}
		wantOperand(t, ptr+"5", pointing(number(5), p.kind))
		wantOperand(t, ptr+"5+6", pointing(number(11), p.kind))
		wantOperand(t, "5*"+ptr+"6", pointing(number(30), p.kind))
		wantOperand(t, "-"+ptr+"6", pointing(number(-6), p.kind))
		wantOperand(t, "NOT "+ptr+"6", pointing(number(-7), p.kind))
		wantOperand(t, "6-"+ptr+"5", pointing(number(1), p.kind))
		wantOperand(t, ptr+"NEVER", pointing(imm(unknown(0)), p.kind))
		wantOperand(t, ptr+"[BX]", pointing(mem(7, value.Num(0)), p.kind))
		wantOperand(t, ptr+"[BX+SI+4]", pointing(mem(0, value.Num(4)), p.kind))
		wantOperand(t, "["+ptr+"BX]", pointing(mem(7, value.Num(0)), p.kind)) // BX counts in [ ]
		wantOperand(t, ptr+"ES:[BX]", in(pointing(mem(7, value.Num(0)), p.kind), api.ES))
		wantOperand(t, "ES:"+ptr+"[BX]", in(pointing(mem(7, value.Num(0)), p.kind), api.ES))
		wantOperand(t, ptr+"XW-XB", pointing(number(6), p.kind))
		// The left one's counts, where two are told.
		wantOperand(t, ptr+"XW+BYTE PTR 2", pointing(placed(farther(words, 2), goes), p.kind))
		wantOperand(t, ptr+"[BX]+WORD PTR [SI]", pointing(mem(0, value.Num(0)), p.kind))
		wantOperand(t, "OFFSET "+ptr+"XW", imm(wants(words, api.WantsOff)))
		wantOperand(t, ptr+"OFFSET XW", pointing(imm(wants(words, api.WantsOff)), p.kind))
		for _, s := range []string{p.word, p.word + " PTR", p.word + " XW", p.word + " 5", p.word + " [BX]", p.word + "+5", "5+" + p.word, "(" + p.word + ")", "[" + p.word + "]", p.word + " PTR PTR XW", p.word + " " + p.word + " PTR XW", p.word + " (PTR) XW", "PTR " + p.word, ptr + "AND 5", ptr + "()", "XW " + ptr, p.word + ":XW", p.word + " PTR:XW", "OFFSET " + p.word, p.word + " 5 PTR XW"} {
			wantWrong(t, s, api.ErrForm)
		}
	}
	for _, s := range []string{"PTR", "PTR XW", "PTR PTR", "QWORD PTR XW", "TBYTE PTR XW", "XW PTR", "5 PTR 6", "NEVER PTR XW", "[PTR]", "(PTR)", "5+PTR", "AX PTR BX", "ES PTR XW"} {
		wantWrong(t, s, api.ErrForm)
	}
	// The words are names, and great.
	for _, l := range [][]api.Token{{text("BYTE"), name("PTR"), name("XW")}, {name("BYTE"), text("PTR"), name("XW")}, {name("BYTE"), sign("PTR"), name("XW")}, {name("byte"), name("PTR"), name("XW")}, {name("BYTE"), name("ptr"), name("XW")}, {sign("OFFSET"), name("XW")}, {text("OFFSET"), name("XW")}, {name("offset"), name("XW")}, {text("SEG"), name("XW")}, {text("NOT"), num(5)}, {text("SHORT"), num(5)}, {text("-"), num(5)}, {name("-"), num(5)}, {name("+"), num(5)}} {
		wantNoPieces(t, show(l), l, told(), api.ErrForm)
	}
}

// placed is a value in memory, or to go to.
func placed(v api.Value, goes bool) api.Operand {
	if goes {
		return imm(v)
	}
	return mem(8, v)
}

func TestSegments(t *testing.T) {
	for n, s := range []string{"ES", "CS", "SS", "DS"} {
		for _, c := range []struct {
			s    string
			want api.Operand
		}{
			{"5", number(5)}, {"XW", mem(8, words)}, {"LN", imm(nears)}, {"OFF", imm(offset)}, {"NEVER", imm(unknown(0))}, {"$", imm(here)}, {"[5]", mem(8, value.Num(5))}, {"[BX]", mem(7, value.Num(0))}, {"[BP+SI-2]", mem(2, value.Num(-2))}, {"XW[DI]", mem(5, words)}, {"XW+2", mem(8, farther(words, 2))}, {"(XW+2)", mem(8, farther(words, 2))}, {"5*6", number(30)}, {"-5", number(-5)}, {"NOT 5", number(-6)}, {"PARA", imm(para)}, {"BYTE PTR XW", pointing(mem(8, words), api.TypeByte)}, {"SS:XW", mem(8, words)}, {"DS:ES:[BX]", mem(7, value.Num(0))},
		} {
			wantOperand(t, s+":"+c.s, in(c.want, n))
			wantOperand(t, "("+s+":"+c.s+")", in(c.want, n))
		}
		wantOperand(t, "["+s+":BX]", in(mem(7, value.Num(0)), n))
		wantOperand(t, "["+s+":BX+SI]", in(mem(0, value.Num(0)), n))
		wantOperand(t, "[BX+"+s+":SI]", in(mem(0, value.Num(0)), n))
		wantOperand(t, "["+s+":XW+DI]", in(mem(5, words), n))
		wantOperand(t, "2+"+s+":XW", in(mem(8, farther(words, 2)), n))
		wantOperand(t, "2*"+s+":5", in(number(10), n))
		wantOperand(t, "6-"+s+":5", in(number(1), n))
		wantOperand(t, "-"+s+":5", in(number(-5), n))
		wantOperand(t, "NOT "+s+":5", in(number(-6), n))
		wantOperand(t, "XW["+s+":BX]", in(mem(7, words), n))
		// The left one's counts, where two are told.
		wantOperand(t, s+":XW["+"ES:BX]", in(mem(7, words), n))
		wantOperand(t, s+":[BX]+DS:[SI]", in(mem(0, value.Num(0)), n))
		for _, wrong := range []string{s + ":", s + "::XW", ":" + s, s + ":)", s + ":()", s + ":[]", s + ".XW", s + " XW", s + "[XW]", "XW:" + s + ":", s + ":" + s + ":", "(" + s + "):XW", "5:" + s, s + ":XW:", s + ":XW XW", "[" + s + "]", "[" + s + "+BX]", "[BX+" + s + "]", "[" + s + ":]", s + ":5+" + s, s + "+" + s + ":5", s + ":AND 5", s + " PTR 5", s + ":PTR"} {
			wantWrong(t, wrong, api.ErrForm)
		}
		for _, l := range [][]api.Token{{text(s), sign(":"), name("XW")}, {sign(s), sign(":"), name("XW")}, {name(s), name(":"), name("XW")}, {name(s), text(":"), name("XW")}} {
			wantNoPieces(t, show(l), l, told(), api.ErrForm)
		}
	}
	for _, s := range []string{"AX:XW", "BX:[SI]", "AL:5", "BP:[4]", "XW:5", "5:5", "$:5", "'A':5", "FS:5", "GS:[BX]", "[BX:SI]", "(ES:5):6", ":5", ":", "PARA:5", "OFFSET:5", "NEVER:5"} {
		wantWrong(t, s, api.ErrForm)
	}
}

func TestSomeAhead(t *testing.T) {
	for _, c := range []struct {
		s    string
		want api.Operand
	}{
		{"SHORT WORD PTR ES:[BX+4]", short(in(pointing(mem(7, value.Num(4)), api.TypeWord), api.ES))},
		{"ES:SHORT WORD PTR [BX+4]", short(in(pointing(mem(7, value.Num(4)), api.TypeWord), api.ES))},
		{"WORD PTR CS:SHORT XB[SI]", short(in(pointing(mem(4, bytes), api.TypeWord), api.CS))},
		{"BYTE PTR DS:XW+2", in(pointing(mem(8, farther(words, 2)), api.TypeByte), api.DS)},
		{"2+BYTE PTR XW+ES:[BX]", in(pointing(mem(7, farther(words, 2)), api.TypeByte), api.ES)},
		{"[BX]+BYTE PTR ES:XW", in(pointing(mem(7, words), api.TypeByte), api.ES)},
		{"OFFSET BYTE PTR ES:XW[2]", in(imm(wants(farther(words, 2), api.WantsOff)), api.ES)},
		{"BYTE PTR OFFSET WORD PTR XW", pointing(imm(wants(words, api.WantsOff)), api.TypeByte)},
		{"SEG OFFSET XW", imm(wants(words, api.WantsSeg))}, {"OFFSET SEG XW", imm(wants(words, api.WantsOff))},
		{"-NOT -NOT 5", number(7)}, {"NOT -NOT -5", number(3)}, {"BYTE PTR -NOT ES:5", pointing(in(number(6), api.ES), api.TypeByte)},
		{"FAR PTR BYTE PTR XW", pointing(imm(words), api.TypeFar)}, {"BYTE PTR FAR PTR LF", pointing(mem(8, fars), api.TypeByte)},
		{"ES:DS:CS:XW", in(mem(8, words), api.ES)},
	} {
		wantOperand(t, c.s, c.want)
	}
}
