package expr

import (
	"fmt"
	"testing"

	"hansom/api"
	"hansom/value"
)

// strengths are the words between two, from the loosest on.
var strengths = [][]string{{"OR", "XOR"}, {"AND"}, {"EQ", "NE", "LT", "LE", "GT", "GE"}, {"+", "-"}, {"*", "/", "MOD", "SHL", "SHR"}}

// betweens are all of them.
func betweens() []string {
	var l []string
	for _, same := range strengths {
		l = append(l, same...)
	}
	return l
}

// did is what two numbers come to.
func did(word string, a, b int) (int, bool) {
	var v api.Value
	ok := false
	switch word {
	case "+":
		v, ok = value.Add(value.Num(a), value.Num(b))
	case "-":
		v, ok = value.Sub(value.Num(a), value.Num(b))
	default:
		v, ok = value.Do(word, value.Num(a), value.Num(b))
	}
	return v.N, ok
}

func TestBetweenTwo(t *testing.T) {
	for _, c := range []struct {
		s    string
		want int
	}{
		{"12 OR 10", 14}, {"12 XOR 10", 6}, {"12 AND 10", 8},
		{"3 EQ 3", -1}, {"3 EQ 4", 0}, {"3 NE 4", -1}, {"3 NE 3", 0}, {"3 LT 4", -1}, {"3 LT 3", 0}, {"3 LE 3", -1}, {"4 LE 3", 0}, {"4 GT 3", -1}, {"3 GT 3", 0}, {"3 GE 3", -1}, {"3 GE 4", 0},
		{"7+2", 9}, {"7-2", 5}, {"2-7", -5}, {"7*2", 14}, {"7/2", 3}, {"7 MOD 2", 1}, {"7 SHL 2", 28}, {"7 SHR 1", 3}, {"1 SHL 31", least}, {"1 SHL 32", 1}, {"1 SHL 33", 2},
		{"(0-7)/2", -3}, {"(0-7) MOD 2", -1}, {"(0-1) SHR 28", 15}, {"7FFFFFFFH+1", least}, {"0-80000000H", least}, {"10000H*10000H", 0}, {"80000000H-1", most},
	} {
		wantOperand(t, c.s, number(c.want))
	}
	for _, s := range []string{"1/0", "1 MOD 0", "0/0", "1 SHL (0-1)", "1 SHR (0-1)", "1/(1-1)", "1 MOD NEVER", "1/NEVER", "NEVER/0", "1 SHL (NEVER-1)", "[1/0]", "BX[1 SHL -1]", "(1/0)+1", "1/0*AX"} {
		wantWrong(t, s, api.ErrForm)
	}
}

// Each word between each two of some numbers, of which some are not known.
func TestBetweenEachTwo(t *testing.T) {
	numbers := []int{0, 1, 2, 5, 31, 32, 255, 65535, most, least, -1, -2, -7}
	for _, word := range betweens() {
		for _, a := range numbers {
			for _, b := range numbers {
				for known := range 4 {
					first, second := api.Value{N: a, Known: known&1 == 0}, api.Value{N: b, Known: known&2 == 0}
					table := api.Table{Names: []string{"A", "B"}, Values: []api.Value{first, second}}
					l := pieces(t, "A "+word+" B")
					what := fmt.Sprint(first, word, second)
					if n, ok := did(word, a, b); ok {
						wantPieces(t, what, l, table, imm(api.Value{N: n, Known: known == 0}))
					} else {
						wantNoPieces(t, what, l, table, api.ErrForm)
					}
				}
			}
		}
	}
}

// Of two words of two strengths the stronger one comes first, of one strength the left one; brackets say otherwise.
func TestTwoWords(t *testing.T) {
	triples := [][3]int{{7, 2, 3}, {12, 10, 6}, {1, 2, 1}, {5, 5, 5}, {100, 7, 2}, {6, 3, 5}, {255, 1, 3}, {2, 9, 4}, {1, 10, 2}}
	for i, firsts := range strengths {
		for j, seconds := range strengths {
			for _, first := range firsts {
				for _, second := range seconds {
					differs := false
					for _, n := range triples {
						left, lok := chained(first, n[0], n[1], second, n[2])
						right, rok := nested(first, n[0], second, n[1], n[2])
						differs = differs || left != right || lok != rok
						what := fmt.Sprint(n[0], " ", first, " ", n[1], " ", second, " ", n[2])
						if i >= j {
							wantResult(t, what, left, lok)
						} else {
							wantResult(t, what, right, rok)
						}
						wantResult(t, fmt.Sprint("(", n[0], " ", first, " ", n[1], ") ", second, " ", n[2]), left, lok)
						wantResult(t, fmt.Sprint(n[0], " ", first, " (", n[1], " ", second, " ", n[2], ")"), right, rok)
					}
					if !differs && i != j {
						t.Errorf("%s and %s: nothing tells which of them is stronger", first, second)
					}
				}
			}
		}
	}
}

// chained is two words, the left one done first.
func chained(first string, a, b int, second string, c int) (int, bool) {
	n, ok := did(first, a, b)
	if !ok {
		return 0, false
	}
	return did(second, n, c)
}

// nested is two words, the right one done first.
func nested(first string, a int, second string, b, c int) (int, bool) {
	n, ok := did(second, b, c)
	if !ok {
		return 0, false
	}
	return did(first, a, n)
}

// wantResult: a text comes to that number, or to none.
func wantResult(t *testing.T, s string, n int, ok bool) {
	t.Helper()
	if ok {
		wantOperand(t, s, number(n))
	} else {
		wantWrong(t, s, api.ErrForm)
	}
}

func TestStrengthsByHand(t *testing.T) {
	for _, c := range []struct {
		s    string
		want int
	}{
		{"2+3*4", 14}, {"2*3+4", 10}, {"(2+3)*4", 20}, {"2*(3+4)", 14}, {"10-3-4", 3}, {"10-(3-4)", 11}, {"100/5/2", 10}, {"100/(5/2)", 50}, {"100/5*2", 40}, {"100 MOD 7*3", 6}, {"2*3 MOD 4", 2}, {"1 SHL 2 SHL 3", 32}, {"1 SHL 2*3", 12}, {"1 SHL 2+3", 7}, {"256 SHR 2 SHR 1", 32},
		{"1 OR 2 AND 4", 1}, {"(1 OR 2) AND 2", 2}, {"1 OR 2 XOR 3", 0}, {"1 XOR 3 OR 4", 6}, {"4 OR 1 XOR 5", 0}, {"7 AND 3 EQ 3", 7}, {"7 AND 3 EQ 4", 0}, {"(7 AND 3) EQ 3", -1},
		{"1+2 EQ 3", -1}, {"3 EQ 1+2", -1}, {"3 EQ 3 EQ 3", 0}, {"3 EQ (3 EQ 3)", 0}, {"3 LT 4 LT 5", -1}, {"5 GT 4 GT 3", 0}, {"1 LT 2 EQ -1", -1}, {"2-1 LT 2*1", -1},
		{"1 OR 2 OR 4 OR 8", 15}, {"1+2-3+4-5", -1}, {"2*3/4*5", 5}, {"1 OR 6 AND 3 EQ 1+2*1", 7}, {"2*1+1 EQ 3 AND 6 OR 1", 7}, {"5-(4-(3-(2-1)))", 3}, {"((5-4)-3)-2", -4},
		{"-2*3", -6}, {"2*-3", -6}, {"2--3", 5}, {"2+-3", -1}, {"2-+3", -1}, {"-2-3", -5}, {"-(2-3)", 1}, {"NOT 1+2", 0}, {"NOT (1+2)", -4}, {"NOT 1 AND 3", 2}, {"NOT 1 EQ 1", 0}, {"3 AND NOT 1", 2}, {"- -3", 3}, {"+ +3", 3}, {"NOT NOT 3", 3}, {"-NOT 3", 4}, {"NOT -3", 2},
	} {
		wantOperand(t, c.s, number(c.want))
	}
}

// Three of one strength, from the left on.
func TestThreeOfOneStrength(t *testing.T) {
	for _, same := range strengths {
		for _, a := range same {
			for _, b := range same {
				for _, c := range same {
					n, ok := chained(a, 100, 7, b, 3)
					if ok {
						n, ok = did(c, n, 2)
					}
					wantResult(t, fmt.Sprintf("100 %s 7 %s 3 %s 2", a, b, c), n, ok)
				}
			}
		}
	}
}

// What stands somewhere: farther by numbers, apart from one another, and by no other word.
func TestBetweenWhatStands(t *testing.T) {
	for _, c := range []struct {
		s    string
		want api.Operand
	}{
		{"XW+2", mem(8, farther(words, 2))}, {"2+XW", mem(8, farther(words, 2))}, {"XW-2", mem(8, farther(words, -2))}, {"XW+2*3", mem(8, farther(words, 6))}, {"1+XW+1", mem(8, farther(words, 2))}, {"XW+FIVE-MINUS", mem(8, farther(words, 12))},
		{"LN+2", imm(farther(nears, 2))}, {"2+LF", imm(farther(fars, 2))}, {"OFF+1", imm(farther(offset, 1))}, {"PARA+1", imm(farther(para, 1))}, {"1+PARA", imm(farther(para, 1))},
		{"XW-XB", number(6)}, {"XB-XW", number(-6)}, {"LN-XW", number(90)}, {"$-XB", number(73)}, {"XW-XW", number(0)}, {"(XW-XB)*2", number(12)}, {"2*(XW-XB)", number(12)}, {"XB+(XW-XB)", mem(8, farther(bytes, 6))}, {"OFF-OFFSET XW", number(2)}, {"OFFSET XW-OFFSET XB", number(6)},
		{"XW-XB EQ 6", number(-1)}, {"5+XW-XB", number(11)},
		{"LATER+1", mem(8, farther(later, 1))}, {"LATER-XB", imm(unknown(4))}, {"XW+NEVER", mem(8, api.Value{N: 10, From: 1, Which: 1, Type: 2})}, {"NEVER+XW", mem(8, api.Value{N: 10, From: 1, Which: 1, Type: 2})}, {"XW-NEVER", mem(8, api.Value{N: 10, From: 1, Which: 1, Type: 2})}, {"NEVER*2", imm(unknown(0))}, {"NEVER-5", imm(unknown(-5))}, {"TYPED+1", imm(farther(typed, 1))},
	} {
		wantOperand(t, c.s, c.want)
	}
	for _, s := range []string{"XW+XB", "XW+LN", "OFF+XW", "PARA+PARA", "PARA-PARA", "5-XW", "XW-XD", "XW-EXT", "XW-OFF", "OFF-XW", "XD-XW", "NEVER-XW", "0-XW", "OFFSET XW-XB", "XW-OFFSET XB", "XW+OFFSET XB", "SEG XW-SEG XW", "SEG XW+SEG XW"} {
		wantWrong(t, s, api.ErrForm)
	}
	for _, same := range []int{0, 1, 2, 4} {
		for _, word := range strengths[same] {
			for _, s := range []string{"XW", "LN", "OFF", "PARA", "EXT", "LATER", "$", "[4]", "[BX]", "OFFSET XW", "SEG XW"} {
				wantWrong(t, s+" "+word+" 1", api.ErrForm)
				wantWrong(t, "1 "+word+" "+s, api.ErrForm)
				wantWrong(t, s+" "+word+" "+s, api.ErrForm)
			}
		}
	}
}

// Words between two are those alone, of their own kind of piece.
func TestNoOthersBetween(t *testing.T) {
	for _, between := range []api.Token{name("+"), name("-"), name("*"), name("/"), text("+"), sign("AND"), sign("OR"), text("AND"), text("MOD"), name("or"), name("and"), name("Mod"), name("NOT"), name("OFFSET"), name("ANDS"), name("PTR"), name("DUP"), name("X"), sign("."), sign("="), sign(","), sign(":"), sign("%"), sign("++"), sign(""), name(""), num(1), {Kind: 17, S: "+"}, {}} {
		wantNoPieces(t, between.S, []api.Token{num(6), between, num(2)}, told(), api.ErrForm)
	}
	wantOperand(t, "6/2", number(3))
}
