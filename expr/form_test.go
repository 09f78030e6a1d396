package expr

import (
	"strings"
	"testing"

	"hansom/api"
	"hansom/value"
)

func TestNoForm(t *testing.T) {
	wantNoPieces(t, "nil", nil, told(), api.ErrForm)
	wantNoPieces(t, "none", []api.Token{}, told(), api.ErrForm)
	for _, s := range []string{
		"()", "[]", "(", ")", "[", "]", "(5", "5)", "[5", "5]", "(5]", "[5)", "((5)", "(5))", "[[5]", "[5]]", "([5)]", "[(5])", "(]", "[)", ")5(", "]5[", "5()", "5(", "5(6)", "(5)(6)", "5[", "5[]", "5[6", "5[6)", "5[6]]", "[5][", "[5][]", "[5](6)", "()5", "[]5", "[5]6", "(5)6", "[BX", "[BX+", "[BX+]", "[+]", "(+)", "[BX)", "XW[BX", "XW[", "XW(BX)",
		"5 6", "XW XB", "XW 5", "5 XW", "'A' 'B'", "5 'A'", "5,6", "5,", ",5", ",", "5:", "5:6", ".", "5.6", "=", "5=6", "=5", "5=", "*", "/", "*5", "/5", "5*", "5/", "5**6", "5*/6", "5//6", "5+*6", "*+5", "(*5)", "[*5]", "5 AND", "AND 5", "AND", "AND AND", "5 AND AND", "5 AND AND 6", "5 AND OR 6", "OR", "XOR 5", "5 XOR", "MOD", "MOD 5", "5 MOD", "SHL 5", "5 SHR", "EQ", "EQ 5", "5 NE", "LT 5", "5 LE", "GT", "GE 5", "(AND)", "[AND]", "5+AND", "-MOD", "5 AND MOD", "5+(6", "5+[6", "5*(6", "(5)+", "[5]+", "[5]-", "[5]*", "(5 6)", "[5 6]", "[BX SI]", "(5,6)", "[5,6]", "5 DUP (6)", "XW=5", "$ $", "? ?",
	} {
		wantWrong(t, s, api.ErrForm)
	}
}

// Of pieces of whatever kinds there are no operands, but of those that there may be.
func TestKinds(t *testing.T) {
	for kind := -3; kind < 20; kind++ {
		odd := api.Token{Kind: kind, S: "XW", N: 5, D: 6}
		alone := []api.Token{odd}
		switch kind {
		case api.TokName:
			wantPieces(t, "a name", alone, told(), mem(8, words))
		case api.TokNum:
			wantPieces(t, "a number", alone, told(), number(5))
		case api.TokText:
			wantPieces(t, "a text", alone, told(), number(0x5857))
		default:
			wantNoPieces(t, show(alone), alone, told(), api.ErrForm)
			wantNoPieces(t, show(alone), []api.Token{odd, num(5)}, told(), api.ErrForm)
			wantNoPieces(t, show(alone), []api.Token{sign("["), odd, sign("]")}, told(), api.ErrForm)
		}
		for _, l := range [][]api.Token{{num(5), odd}, {num(5), odd, num(6)}, {sign("("), num(5), odd}, {sign("["), num(5), odd, sign("]")}, {name("XW"), odd}, {name("AX"), odd}, {sign("["), name("BX"), sign("]"), odd}} {
			wantNoPieces(t, show(l), l, told(), api.ErrForm)
		}
	}
	for _, kind := range []int{1 << 32, -1 << 32, 1<<32 + api.TokNum, -1 << 63, 1<<63 - 1} {
		wantNoPieces(t, "a kind", []api.Token{{Kind: kind, S: "XW", N: 5}}, told(), api.ErrForm)
	}
	// TokEnd is none, also behind others.
	wantNoPieces(t, "an end", []api.Token{num(5), {}}, told(), api.ErrForm)
	wantNoPieces(t, "an end", []api.Token{{}, num(5)}, told(), api.ErrForm)
	wantNoPieces(t, "a ratio", []api.Token{{Kind: api.TokRatio, N: 6, D: 3}}, told(), api.ErrForm)
	wantNoPieces(t, "a ratio", []api.Token{num(5), sign("+"), {Kind: api.TokRatio, N: 6, D: 3}}, told(), api.ErrForm)
	// Of signs only their own letters are some.
	for c := range 256 {
		s := string([]byte{byte(c)})
		for _, l := range [][]api.Token{{sign(s)}, {num(6), sign(s)}} {
			wantNoPieces(t, show(l), l, told(), api.ErrForm)
		}
		switch s {
		case "+":
			wantPieces(t, s, []api.Token{num(6), sign(s), num(2)}, told(), number(8))
			wantPieces(t, s, []api.Token{sign(s), num(2)}, told(), number(2))
		case "-":
			wantPieces(t, s, []api.Token{num(6), sign(s), num(2)}, told(), number(4))
			wantPieces(t, s, []api.Token{sign(s), num(2)}, told(), number(-2))
		case "*":
			wantPieces(t, s, []api.Token{num(6), sign(s), num(2)}, told(), number(12))
			wantNoPieces(t, s, []api.Token{sign(s), num(2)}, told(), api.ErrForm)
		case "/":
			wantPieces(t, s, []api.Token{num(6), sign(s), num(2)}, told(), number(3))
			wantNoPieces(t, s, []api.Token{sign(s), num(2)}, told(), api.ErrForm)
		default:
			wantNoPieces(t, s, []api.Token{num(6), sign(s), num(2)}, told(), api.ErrForm)
			wantNoPieces(t, s, []api.Token{sign(s), num(2)}, told(), api.ErrForm)
		}
	}
}

// ways are those in which pieces may be deep: what stands ahead of the innermost, and behind it, and how many levels that is.
var ways = []struct {
	ahead, behind string
	levels        int
}{
	{"( ", ") ", 1}, {"[ ", "] ", 1}, {"5[ ", "] ", 1}, {"[2][ ", "] ", 1}, {"( 5[ ", "]) ", 2}, {"-( ", ") ", 2},
	{"- ", "", 1}, {"+ ", "", 1}, {"NOT ", "", 1}, {"SHORT ", "", 1}, {"OFFSET ", "", 1}, {"SEG ", "", 1}, {"BYTE PTR ", "", 1}, {"WORD PTR ", "", 1}, {"FAR PTR ", "", 1}, {"ES: ", "", 1}, {"DS: ", "", 1},
	{"(2+ ", ") ", 1}, {"(2* ", ") ", 1}, {"( ", "+2) ", 1}, {"(5-(6- ", ")) ", 2}, {"(5 AND ( ", " OR 1)) ", 2}, {"ES:BYTE PTR [ ", "] ", 3},
}

func TestDeep(t *testing.T) {
	for _, way := range ways {
		each := way.levels
		inner := "NEVER"
		for _, many := range []int{1, 2, 38 / each, 39 / each, 40 / each, 40/each + 1, 42, 80, 200} {
			s := strings.Repeat(way.ahead, many) + inner + strings.Repeat(way.behind, many)
			o, e := Operand(pieces(t, s), told())
			if want := many*each <= 40; want && (e != api.OK || o.Kind == api.OpdNone) || !want && (e != api.ErrBig || o != (api.Operand{})) {
				t.Errorf("%d times %q: %+v, %d", many, way.ahead, o, e)
			}
			v, number := Number(pieces(t, s), told())
			if many*each > 40 && (number != api.ErrBig || v != (api.Value{})) {
				t.Errorf("%d times %q: number %+v, %d", many, way.ahead, v, number)
			}
			// Where there is no operand, that is told first.
			for _, wrong := range []string{s + " 5", s + ")", s + "]", s + " AX", "AX " + s, strings.Repeat(way.ahead, many), strings.Repeat(way.ahead, many) + "AND" + strings.Repeat(way.behind, many), s + "+AX", s + "*"} {
				wantWrong(t, wrong, api.ErrForm)
			}
		}
	}
}

// around is a text with so many of others around it.
func around(many int, ahead, s, behind string) string {
	return strings.Repeat(ahead, many) + s + strings.Repeat(behind, many)
}

func TestDeepByHand(t *testing.T) {
	for _, c := range []struct {
		s    string
		want api.Operand
	}{
		{around(39, "( ", "5", ") "), number(5)}, {around(40, "( ", "5", ") "), number(5)}, {around(40, "( ", "AX", ") "), register(8)},
		{around(39, "[ ", "BX", "] "), mem(7, value.Num(0))}, {around(40, "[ ", "BX", "] "), mem(7, value.Num(0))}, {around(40, "5[ ", "BX", "] "), mem(7, value.Num(200))},
		{around(39, "- ", "5", ""), number(-5)}, {around(40, "- ", "5", ""), number(5)}, {around(40, "NOT ", "5", ""), number(5)}, {around(40, "ES: ", "XW", ""), in(mem(8, words), api.ES)}, {around(40, "BYTE PTR ", "XW", ""), pointing(mem(8, words), api.TypeByte)},
		{around(20, "-( ", "5", ") "), number(5)}, {"-" + around(39, "( ", "5", ") "), number(-5)}, {around(20, "( ", around(20, "[ ", "4", "] "), ") "), mem(8, value.Num(4))}, {around(20, "NOT ", around(20, "( ", "5", ") "), ""), number(5)},
		// What stands beside one another is no deeper.
		{around(40, "( ", "5", ") ") + "+" + around(40, "( ", "6", ") "), number(11)}, {around(40, "[ ", "BX", "] ") + around(40, "[ ", "SI", "] "), mem(0, value.Num(0))}, {around(40, "- ", "5", "") + "*" + around(40, "- ", "6", ""), number(30)}, {strings.Repeat("[ 1 ] ", 300), mem(8, value.Num(300))}, {strings.Repeat("5 + ", 300) + "5", number(1505)}, {strings.Repeat("(5) - ", 100) + "[BX]+0", api.Operand{}}, {strings.Repeat("-5 + ", 300) + "0", number(-1500)}, {strings.Repeat("5 OR 1 AND 1 EQ 1 + 1 * ", 50) + "1", number(5)},
	} {
		if c.want == (api.Operand{}) {
			wantWrong(t, c.s, api.ErrForm)
			continue
		}
		wantOperand(t, c.s, c.want)
	}
	for _, s := range []string{
		around(41, "( ", "5", ") "), around(41, "( ", "AX", ") "), around(41, "[ ", "BX", "] "), around(41, "5[ ", "BX", "] "), around(41, "- ", "5", ""), around(41, "NOT ", "5", ""), around(41, "ES: ", "XW", ""), around(41, "BYTE PTR ", "XW", ""), around(41, "SHORT ", "AX", ""), "-" + around(20, "-( ", "5", ") "), "-" + around(40, "( ", "5", ") "), around(40, "( ", "-5", ") "), around(40, "( ", "(5)+1", ") "), around(40, "( ", "5[4]", ") "), around(21, "( ", around(20, "[ ", "4", "] "), ") "), around(20, "( ", around(21, "[ ", "4", "] "), ") "), "[" + around(20, "NOT ", around(20, "( ", "5", ") "), "") + "]",
		"5+" + around(41, "( ", "5", ") "), around(41, "( ", "5", ") ") + "+5", "[BX]" + around(41, "[ ", "5", "] "), "5*" + around(41, "- ", "5", "") + "+6", around(41, "( ", "5", ") ") + "+(5)", "(5)+" + around(41, "( ", "5", ") ") + "-(-5)", around(41, "[ ", "5", "] ") + "[BX]", around(41, "5[ ", "5", "] ") + "[4][BX]", "ES:BYTE PTR" + around(39, "( ", "5", ") "),
	} {
		wantWrong(t, s, api.ErrBig)
	}
}

// As deep as pieces may be: each call ends.
func TestVeryDeep(t *testing.T) {
	for _, way := range []struct {
		many          int
		ahead, behind []api.Token
	}{
		{1 << 16, []api.Token{sign("(")}, []api.Token{sign(")")}}, {1 << 12, []api.Token{sign("[")}, []api.Token{sign("]")}}, {1 << 16, []api.Token{sign("-")}, nil}, {1 << 12, []api.Token{name("WORD"), name("PTR")}, nil}, {1 << 12, []api.Token{num(1), sign("+"), sign("(")}, []api.Token{sign(")")}},
	} {
		l := times(way.many, way.ahead)
		wantNoPieces(t, "open", l, told(), api.ErrForm)
		l = append(append(l, num(5)), times(way.many, way.behind)...)
		wantNoPieces(t, "deep", l, told(), api.ErrBig)
		wantNoPieces(t, "deep, and more", append(l, num(5)), told(), api.ErrForm)
	}
	// Beyond what is promised: it ends, too.
	for _, one := range []api.Token{sign("("), sign("-")} {
		l := times(2_000_000, []api.Token{one})
		if o, e := Operand(l, told()); o != (api.Operand{}) || e == api.OK {
			t.Errorf("millions of %s: %+v, %d", one.S, o, e)
		}
	}
}

func times(many int, l []api.Token) []api.Token {
	var all []api.Token
	for range many {
		all = append(all, l...)
	}
	return all
}
