package lex

import (
	"fmt"
	"strings"
	"testing"

	"hansom/api"
)

func TestLineByHand(t *testing.T) {
	wantLine(t, "MOV AX,12H", name("MOV"), name("AX"), sign(","), num(18))
	wantLine(t, "mov ax,12h ; x", name("MOV"), name("AX"), sign(","), num(18))
	wantLine(t, "START: MOV WORD PTR [BX+SI-4],OFFSET table", name("START"), sign(":"), name("MOV"), name("WORD"), name("PTR"), sign("["), name("BX"), sign("+"), name("SI"), sign("-"), num(4), sign("]"), sign(","), name("OFFSET"), name("TABLE"))
	wantLine(t, "\tDB\t'It''s',0dh,0AH,\"$\"\r", name("DB"), text("It"), text("s"), sign(","), num(13), sign(","), num(10), sign(","), text("$"))
	wantLine(t, "X=(1+2)*3/-4", name("X"), sign("="), sign("("), num(1), sign("+"), num(2), sign(")"), sign("*"), num(3), sign("/"), sign("-"), num(4))
	wantLine(t, "pi DQ 355%113,-1%3", name("PI"), name("DQ"), ratio(355, 113), sign(","), sign("-"), ratio(1, 3))
	wantLine(t, "CODE SEGMENT PARA PUBLIC 'Code'", name("CODE"), name("SEGMENT"), name("PARA"), name("PUBLIC"), text("Code"))
	wantLine(t, "ASSUME CS:CODE,DS:NOTHING", name("ASSUME"), name("CS"), sign(":"), name("CODE"), sign(","), name("DS"), sign(":"), name("NOTHING"))
	wantLine(t, "x db 4 dup(?), $-x", name("X"), name("DB"), num(4), name("DUP"), sign("("), name("?"), sign(")"), sign(","), name("$"), sign("-"), name("X"))
	wantLine(t, "mov al,es:[di].next", name("MOV"), name("AL"), sign(","), name("ES"), sign(":"), sign("["), name("DI"), sign("]"), sign("."), name("NEXT"))
}

func TestLineOfNothing(t *testing.T) {
	for _, s := range []string{"", " ", "\t", "\r", "   ", "\t\t", "\r\r", " \t\r \r\t ", ";", ";;", " ;", "\t;", "\r;", "; ", ";\r", ";\t", "; a remark", strings.Repeat(" ", 200), strings.Repeat("\t", 200), strings.Repeat("\r", 200), strings.Repeat(";", 200), ";" + strings.Repeat("x", 199)} {
		wantLine(t, s)
	}
}

// kinds is pieces of each kind, as they stand in a line.
func kinds() []struct {
	s    string
	want api.Token
} {
	return []struct {
		s    string
		want api.Token
	}{
		{"A", name("A")}, {"mov", name("MOV")}, {"h", name("H")}, {"b", name("B")}, {"x1", name("X1")}, {"_", name("_")}, {"@", name("@")}, {"?", name("?")}, {"$", name("$")},
		{"0", num(0)}, {"12", num(12)}, {"12H", num(18)}, {"10b", num(2)}, {"9007199254740992", num(1 << 53)},
		{"''", text("")}, {`""`, text("")}, {"'a'", text("a")}, {`"B c"`, text("B c")},
		{"+", sign("+")}, {"-", sign("-")}, {"*", sign("*")}, {"/", sign("/")}, {"(", sign("(")}, {")", sign(")")}, {"[", sign("[")}, {"]", sign("]")}, {",", sign(",")}, {":", sign(":")}, {".", sign(".")}, {"=", sign("=")},
		{"1%2", ratio(1, 2)}, {"0AH%10B", ratio(10, 2)},
	}
}

func TestLineOfOne(t *testing.T) {
	for _, c := range kinds() {
		for _, ahead := range []string{"", " ", "\t", "\r", "  \t\r "} {
			for _, behind := range []string{"", " ", "\t", "\r", " \r\t  ", ";", " ;", ";;", ";x", "; 'x", "; !", ";\"", ";12G %\t\r#"} {
				wantLine(t, ahead+c.s+behind, c.want)
			}
		}
	}
}

func TestLineOfTwoParted(t *testing.T) {
	for _, a := range kinds() {
		for _, b := range kinds() {
			for _, by := range []string{" ", "\t", "\r", "  ", "\r\t ", strings.Repeat(" ", 40)} {
				wantLine(t, a.s+by+b.s, a.want, b.want)
				wantLine(t, by+a.s+by+b.s+by+";"+b.s, a.want, b.want)
			}
			wantLine(t, a.s+";"+b.s, a.want)
			wantLine(t, a.s+" ;"+b.s, a.want)
		}
	}
}

// Texts and signs end where they end: what stands next to them is another piece.
func TestLineOfTwoBesideSigns(t *testing.T) {
	for _, a := range kinds() {
		for _, b := range kinds() {
			if a.want.Kind != api.TokText && a.want.Kind != api.TokSign && b.want.Kind != api.TokText && b.want.Kind != api.TokSign {
				continue
			}
			wantLine(t, a.s+b.s, a.want, b.want)
			wantLine(t, a.s+b.s+a.s, a.want, b.want, a.want)
		}
	}
}

func TestLineOfTwoBesideNames(t *testing.T) {
	wantLine(t, "AB", name("AB"))
	wantLine(t, "A_", name("A_"))
	wantLine(t, "A12", name("A12"))
	wantLine(t, "A12H", name("A12H"))
	wantLine(t, "$1", name("$1"))
	wantLine(t, "?9", name("?9"))
	wantLine(t, "12", num(12))
	wantLine(t, "1H", num(1))
	wantLine(t, "1b", num(1))
	wantLine(t, "1BH", num(27))
}

// What follows a number at once and is a letter belongs to it; a letter that only names may have begins a name.
func TestLineOfTwoBesideNumbers(t *testing.T) {
	for _, s := range []string{"1A", "2B", "12G", "12H12H", "1Hx", "10b1", "12mov", "0FF", "12H1", "1D", "1x2", "1%2x", "1%2H1", "1%2B2"} {
		wantWrong(t, s, api.ErrForm)
	}
	for _, s := range []string{"$", "_", "@", "?", "_1", "?x", "@@", "$H"} {
		wantLine(t, "12"+s, num(12), name(strings.ToUpper(s)))
		wantLine(t, "12h"+s, num(18), name(strings.ToUpper(s)))
		wantLine(t, "1%2"+s, ratio(1, 2), name(strings.ToUpper(s)))
	}
	wantLine(t, "1 2", num(1), num(2))
	wantLine(t, "1 H", num(1), name("H"))
	wantLine(t, "10 B", num(10), name("B"))
}

func TestLineNames(t *testing.T) {
	const most = "abcdefghijklmnopqrstuvwxyzABCDEFGHIJKLMNOPQRSTUVWXYZ_@?$"
	for _, r := range most + "0123456789" {
		c := string(r)
		great := strings.ToUpper(c)
		wantLine(t, "a"+c, name("A"+great))
		wantLine(t, "_"+c+"x", name("_"+great+"X"))
		wantLine(t, "$"+c+c+"0 "+"?"+c, name("$"+great+great+"0"), name("?"+great))
	}
	for _, r := range most {
		c := string(r)
		great := strings.ToUpper(c)
		wantLine(t, c, name(great))
		wantLine(t, c+"1", name(great+"1"))
		wantLine(t, c+"z9_ "+c, name(great+"Z9_"), name(great))
	}
	wantLine(t, strings.Repeat("a", 200), name(strings.Repeat("A", 200)))
	wantLine(t, "??$$@@__", name("??$$@@__"))
	wantLine(t, "BeGin end2_X", name("BEGIN"), name("END2_X"))
}

func TestLineNumbers(t *testing.T) {
	for _, c := range []struct {
		s    string
		want uint64
	}{
		{"0", 0}, {"9", 9}, {"65535", 65535}, {"0ffffh", 65535}, {"0FFFFH", 65535}, {"1111B", 15}, {"1bh", 27}, {"9007199254740992", 1 << 53}, {"20000000000000H", 1 << 53}, {strings.Repeat("0", 199) + "7", 7}, {strings.Repeat("0", 198) + "7H", 7},
	} {
		wantLine(t, c.s, num(c.want))
	}
	for _, s := range []string{"9007199254740993", "20000000000001H", "1" + strings.Repeat("0", 53) + "1B", "1" + strings.Repeat("0", 64) + "B", "18446744073709551617", "1" + strings.Repeat("0", 199), "102B", "1A", "0G", "0xH", "12Q"} {
		for _, ahead := range []string{"", " ", "A ", "1,", "'x'", "("} {
			wantWrong(t, (ahead + s)[:min(len(ahead+s), 200)], api.ErrForm)
		}
	}
	wantLine(t, "-1", sign("-"), num(1))
	wantLine(t, "+1-2", sign("+"), num(1), sign("-"), num(2))
	wantLine(t, "1.5", num(1), sign("."), num(5))
	wantLine(t, "FFH", name("FFH"))
}

func TestLineTexts(t *testing.T) {
	for _, s := range []string{"", " ", "  ", "\t", "\r", "a", "Abc", "mixed Case", ";", "a;b", ";;", "a\tb", "\ta\r", " a b ", "!#%&<>\\^`{|}~", "12G", "1%", "(),[]:.=", "0123456789", strings.Repeat("x", 198), strings.Repeat(" ", 198)} {
		for _, by := range []string{"'", `"`} {
			wantLine(t, by+s+by, text(s))
			if len(s) < 100 {
				wantLine(t, "db "+by+s+by+",1", name("DB"), text(s), sign(","), num(1))
				wantLine(t, by+s+by+by+s+by, text(s), text(s))
			}
		}
		if len(s) < 190 {
			wantLine(t, `'"`+s+`"'`, text(`"`+s+`"`))
			wantLine(t, `"'`+s+`'"`, text("'"+s+"'"))
		}
	}
	wantLine(t, `'"'`, text(`"`))
	wantLine(t, `"'"`, text("'"))
	wantLine(t, `'"' "'"`, text(`"`), text("'"))
	wantLine(t, `'a'"b"'c'`, text("a"), text("b"), text("c"))
	wantLine(t, "''''", text(""), text(""))
	wantLine(t, "'it''s'", text("it"), text("s"))
	wantLine(t, "a'B'c\"D\"", name("A"), text("B"), name("C"), text("D"))
	wantLine(t, "'a;b' ;'c", text("a;b"))
}

func TestLineTextsWithoutEnd(t *testing.T) {
	for _, s := range []string{"'", `"`, "'a", `"a`, "'a\"", `"a'`, "'''", `"""`, "'a' '", "a'", "1'", "('", "'a;", "';'x'", "' ", "'\t\r", "mov al,'", "'a''", `'a'"`, "'" + strings.Repeat("x", 199), strings.Repeat("'", 199)} {
		wantWrong(t, s, api.ErrForm)
	}
}

func TestLineSigns(t *testing.T) {
	const signs = "+-*/()[],:.="
	var every []api.Token
	for _, r := range signs {
		s := string(r)
		every = append(every, sign(s))
		wantLine(t, s, sign(s))
		wantLine(t, s+s, sign(s), sign(s))
		wantLine(t, "a"+s+"1", name("A"), sign(s), num(1))
		wantLine(t, "1"+s+"a", num(1), sign(s), name("A"))
	}
	wantLine(t, signs, every...)
	wantLine(t, strings.Join(strings.Split(signs, ""), " "), every...)
	most, _ := Line(strings.Repeat("+", 200))
	if len(most) != 200 {
		t.Errorf("of 200 signs: %d pieces", len(most))
	}
}

// Signs that are none of a line's, wherever they stand but in a text or behind a semicolon.
func TestLineOfOtherSigns(t *testing.T) {
	for _, r := range "!#%&<>\\^`{|}~" {
		s := string(r)
		for _, line := range []string{s, " " + s, s + " ", s + "a", "a" + s, "a " + s, s + "1", "a" + s + "b", "(" + s, s + s, "'x'" + s, s + "'x'", "+" + s, s + ";", "a,b" + s + ";x", s + "1%2", "1%2" + s, "1" + s, "1 " + s, "1" + s + " 2", "1 " + s + "2", "1 " + s + " 2"} {
			wantWrong(t, line, api.ErrForm)
		}
		if s != "%" {
			wantWrong(t, "1"+s+"2", api.ErrForm)
		}
		wantLine(t, "'"+s+"'", text(s))
		wantLine(t, "a;"+s, name("A"))
	}
}

func TestLineRatios(t *testing.T) {
	for _, c := range []struct {
		s    string
		n, d uint64
	}{
		{"1%2", 1, 2}, {"22%7", 22, 7}, {"0%0", 0, 0}, {"1%0", 1, 0}, {"0%1", 0, 1}, {"12H%10", 18, 10}, {"12%10H", 12, 16}, {"0ffh%0FH", 255, 15}, {"101B%11b", 5, 3}, {"1bh%1b", 27, 1}, {"7%101B", 7, 5}, {"1B%0BH", 1, 11},
		{"9007199254740992%9007199254740992", 1 << 53, 1 << 53}, {"20000000000000H%1", 1 << 53, 1}, {"1%20000000000000H", 1, 1 << 53}, {"007%0003", 7, 3},
		{strings.Repeat("0", 98) + "5%" + strings.Repeat("0", 98) + "8H", 5, 8},
	} {
		wantLine(t, c.s, ratio(c.n, c.d))
		if len(c.s) < 100 {
			wantLine(t, "x dq -"+c.s+","+c.s, name("X"), name("DQ"), sign("-"), ratio(c.n, c.d), sign(","), ratio(c.n, c.d))
			wantLine(t, c.s+"'%'"+c.s+";%", ratio(c.n, c.d), text("%"), ratio(c.n, c.d))
		}
	}
}

func TestLineOfNoRatio(t *testing.T) {
	for _, s := range []string{
		"%", "%2", "1%", "1%;2", "1%'2'", "'1'%2", "%%", "1%%2", "1%2%", "1%2%3", "%1%2", "1%2 %3", "1%2%3%4",
		"1 %2", "1% 2", "1 % 2", "1\t%2", "1%\t2", "1\r%2", "1%\r2", "1 %", "% 2",
		"1%A", "A%1", "A%B", "1%$", "1%_1", "1%AH", "1%FFH", "AH%1", "1%2G", "1G%2", "1%2A", "2B%1", "1%2B", "1%-2", "1%+2", "1%(2)", "(1)%2", "1%1%", "1_%2", "1%.2",
		"9007199254740993%1", "1%9007199254740993", "20000000000001H%1", "1%20000000000001H", "1%18446744073709551617", "18446744073709551617%1",
	} {
		wantWrong(t, s, api.ErrForm)
		wantWrong(t, "a "+s, api.ErrForm)
		wantWrong(t, s+" a", api.ErrForm)
	}
	wantLine(t, "1%-2'"[:1]+" ;%2", num(1))
}

func TestLineBig(t *testing.T) {
	for _, c := range []struct {
		s    string
		many int
	}{{" ", 0}, {"\t", 0}, {";", 0}, {"a", 1}, {"0", 1}, {"+", 200}, {"''", 100}, {"a ", 100}, {"a,", 200}, {"1%2,", 100}} {
		most := strings.Repeat(c.s, 200/len(c.s))
		if l, e := Line(most); e != api.OK || len(l) != c.many {
			t.Errorf("200 bytes of %q: %d pieces, %d", c.s, len(l), e)
		}
		wantWrong(t, most+" ", api.ErrBig)
		wantWrong(t, " "+most, api.ErrBig)
		wantWrong(t, most+c.s, api.ErrBig)
		wantWrong(t, strings.Repeat(most, 1000), api.ErrBig)
	}
	wantLine(t, "a;"+strings.Repeat("x", 198), name("A"))
	wantWrong(t, "a;"+strings.Repeat("x", 199), api.ErrBig)
	wantLine(t, "a"+strings.Repeat(" ", 199), name("A"))
	wantWrong(t, "a"+strings.Repeat(" ", 200), api.ErrBig)
}

// Bytes count, not letters of several bytes; and what is too long is told ahead of whatever else is wrong.
func TestLineBigAheadOfForm(t *testing.T) {
	for _, s := range []string{"\n", "\x00", "\x7f", "\xff", "é", "'\"", "!", "1G ", "1%", ";\n", "'\n"} {
		wantWrong(t, strings.Repeat(s, 200/len(s)), api.ErrForm)
		wantWrong(t, strings.Repeat(s, 200/len(s)+1), api.ErrBig)
		wantWrong(t, s+strings.Repeat(" ", 200), api.ErrBig)
		wantWrong(t, strings.Repeat(" ", 200)+s, api.ErrBig)
		wantWrong(t, strings.Repeat(";", 200)+s, api.ErrBig)
	}
	wantWrong(t, ";"+strings.Repeat("é", 100), api.ErrBig)
	wantWrong(t, ";"+strings.Repeat("é", 99), api.ErrForm)
}

// places are where a byte may stand in a line.
func places(c string) []string {
	return []string{
		c, " " + c, c + " ", "mov" + c + "ax", "mov " + c + " ax", "a" + c, c + "a", "1" + c + "2", c + "1", "1" + c, "1%" + c + "2", "1%2" + c, "1" + c + "%2",
		"'" + c + "'", "'a" + c + "b'", "\"" + c + "\"", "'a'" + c, c + "'a'", "(" + c + ")", "+" + c, ";" + c, "a ;" + c, "a ; b" + c, "; 'x" + c + "'", c + ";", "'" + c, "a'" + c + "';" + c,
	}
}

func TestLineOfEveryByte(t *testing.T) {
	for i := range 256 {
		c := string([]byte{byte(i)})
		may := i >= 0x20 && i <= 0x7e || i == 9 || i == 13
		for _, s := range places(c) {
			if !may {
				wantWrong(t, s, api.ErrForm)
				continue
			}
			besideLine(t, s)
		}
	}
}

func TestLineOfOtherLetters(t *testing.T) {
	for _, c := range []string{"é", "ÿ", "ſ", "１", "\u2028", "\ufeff", "\ufffd", "\u00a0", "\u0085", "\U0001d7ce", "\xc3", "\xe2\x80", "\xf0\x9d\x9f", "\xed\xa0\x80", "\x80", "\xff\xff", "\x00\x00", "\n", "\r\n", "\v", "\f", "\x1a", "\x1b[", "\x7f"} {
		for _, s := range places(c) {
			wantWrong(t, s, api.ErrForm)
		}
	}
}

// What stands behind a semicolon tells nothing, but that its letters must be a line's.
func TestLineBehindSemicolon(t *testing.T) {
	for _, s := range []string{"x", " x ", "'", "\"", "'x", "!", "#%&", "1G", "12H12H", "1%", "%", "9007199254740993", ";", "; ;", "~", "\t", "\r", "(", "'a'", "\\", "{}"} {
		wantLine(t, ";"+s)
		wantLine(t, "mov ;"+s, name("MOV"))
		wantLine(t, "12h;"+s, num(18))
		wantLine(t, "'a';"+s, text("a"))
		wantLine(t, "1%2;"+s, ratio(1, 2))
		wantLine(t, "),;"+s, sign(")"), sign(","))
		wantLine(t, "'a;"+"b';"+s, text("a;b"))
		for _, c := range []string{"\x00", "\n", "\x1f", "\x7f", "\x80", "\xff", "é"} {
			wantWrong(t, ";"+s+c, api.ErrForm)
			wantWrong(t, "mov;"+c+s, api.ErrForm)
			wantWrong(t, "'a';"+s+c+s, api.ErrForm)
		}
	}
}

// Where much is well, and one thing is wrong, nothing is told beside that.
func TestLineTellsNothingBesideErrors(t *testing.T) {
	const well = "a: mov ax,12h+3"
	for _, s := range []string{"!", "'x", "1G", "1%", "%", "\n", "\xff", ";\n", "9007199254740993", "'\x00'", "#;"} {
		wantWrong(t, well+" "+s, api.ErrForm)
		if !strings.HasPrefix(s, ";") {
			wantWrong(t, s+" "+well, api.ErrForm)
		}
		wantWrong(t, well+","+s, api.ErrForm)
		wantWrong(t, well+" "+s+strings.Repeat(" ", 200), api.ErrBig)
	}
}

// besideLine: a line is what the model tells of it.
func besideLine(t *testing.T, s string) {
	t.Helper()
	if l, e := modelLine(s); e == api.OK {
		wantLine(t, s, l...)
	} else {
		wantWrong(t, s, e)
	}
}

func TestLineBesideModel(t *testing.T) {
	d := drawer(282)
	parts := strings.Split(`a|mov|_x$|?|@1|0|12|12h|10b|0ffH|1G|''|'a b'|"c;'"|'|"|+|-|*|/|(|)|[|]|,|:|.|=|%|1%2|0AH%1b| |  |;|!|`+"\t|\r|\n|\x7f", "|")
	for range 20000 {
		var s strings.Builder
		for range d.below(12) {
			s.WriteString(parts[d.below(len(parts)-d.below(8))])
		}
		besideLine(t, s.String())
		besideLine(t, strings.Repeat(" ", 190)+s.String())
		besideLine(t, d.text(d.below(9), "aH1%$'\" ;+,"))
		besideLine(t, d.text(d.below(9), "0129abAhB%%  "))
	}
	for range 5000 {
		b := make([]byte, d.below(210))
		for i := range b {
			b[i] = " aB3'\"%;,\t"[d.below(10)]
		}
		besideLine(t, string(b))
		for i := range b {
			b[i] = d.byte()
		}
		besideLine(t, string(b))
	}
}

// Every short line of letters that matter.
func TestLineOfEveryShort(t *testing.T) {
	const letters = "aH1B%$'\" ;+!"
	var longer func(s string)
	longer = func(s string) {
		besideLine(t, s)
		if len(s) < 5 {
			for _, r := range letters {
				longer(s + string(r))
			}
		}
	}
	longer("")
}

// What a line tells is as long as it says: no piece takes more or fewer letters than its own.
func TestLineOfEveryLength(t *testing.T) {
	for many := 1; many <= 65; many++ {
		a, n, x := strings.Repeat("a", many), strings.Repeat("0", many-1)+"1", strings.Repeat("x", many-1)
		wantLine(t, fmt.Sprintf("%s+%s'%s'", a, n, x), name(strings.ToUpper(a)), sign("+"), num(1), text(x))
		wantLine(t, fmt.Sprintf("'%s'%s%%%s;", x, n, n), text(x), ratio(1, 1))
	}
}
