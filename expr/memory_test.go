package expr

import (
	"strings"
	"testing"

	"hansom/api"
	"hansom/value"
)

// rms is the RM of what registers count, each two in both orders; others may not be together.
var rms = map[string]int{
	"": 8, "BX": 7, "BP": 6, "SI": 4, "DI": 5,
	"BX SI": 0, "SI BX": 0, "BX DI": 1, "DI BX": 1, "BP SI": 2, "SI BP": 2, "BP DI": 3, "DI BP": 3,
}

var counted = []string{"BX", "BP", "SI", "DI"}

func TestExamples(t *testing.T) {
	wantOperand(t, "[BX+SI+4]", mem(0, value.Num(4)))
}

// What counts alone, and each two: in one [ ], in two, in brackets, and with numbers and names wherever these may stand.
func TestCounting(t *testing.T) {
	for _, a := range counted {
		rm := rms[a]
		for _, s := range []string{"[A]", "[(A)]", "[[A]]", "([A])", "[A+0]", "[0+A]", "[A-0]", "0[A]", "[A][0]", "[0][A]", "[A]+0", "0+[A]", "[A]-0", "([A]+0)", "(0)[A]", "[0]+[A]", "[A][0][0]", "[(0+A)]", "[((A))+(0)]", "['A'-41H+A]"} {
			wantOperand(t, strings.ReplaceAll(s, "A", a), withText(mem(rm, value.Num(0)), s, a))
		}
		for _, s := range []string{"XW[A]", "[XW+A]", "[A+XW]", "[A][XW]", "[XW][A]", "XW+[A]", "[A]+XW", "(XW)[A]", "[A+XW+2-2]", "[A-2+XW+2]", "2[A]+XW-2", "[A+2][XW-2]", "XW[A+2]-2", "[A]+XW+2-2", "2+XW-2+[A]", "[A+(XW+2)-2]", "XW[2][A]-2", "[A+(2+XW)]-2", "FIVE[A]+XW-FIVE", "[A+XB-XB+XW]", "XW[A]+(XW-XB)-6"} {
			wantOperand(t, strings.ReplaceAll(s, "A", a), mem(rm, words))
		}
		for _, s := range []string{"[-A]", "[+A]", "XW-2[A]", "4-2[A]", "2*2[A]", "[4-A]", "[XW-A]", "[A-A]", "4-[A]", "[4]-[A]", "XW-[A]", "[A*2]", "[2*A]", "[A*1]", "[A/1]", "[A MOD 2]", "[A SHL 1]", "[A SHR 1]", "[A AND 1]", "[A OR 1]", "[A XOR 1]", "[A EQ A]", "[A LT 4]", "[1 SHL A]", "[NOT A]", "[OFFSET A]", "[SEG A]", "[A]*1", "1*[A]", "[A] AND 1", "[A] EQ 1", "NOT [A]", "-[A]", "[A+A]", "[A][A]", "[A]+[A]", "[A+4+A]", "[A+[A]]", "[A]4", "[A]XW", "[A] [", "[A 4]", "[A A]", "[A,4]", "[A:4]", "A[4]", "A+4", "4+A", "A+XW", "[4]A", "(A)+[4]", "A[A]", "XW[A]+XW", "[A+XW+XB]", "[A+XW][XB]"} {
			wantWrong(t, strings.ReplaceAll(s, "A", a), api.ErrForm)
		}
	}
}

// withText takes care of 'A' in a text of tests: there a register's name is a text of two letters.
func withText(o api.Operand, s, a string) api.Operand {
	if strings.Contains(s, "'") {
		o.V = value.Num(int(a[0])<<8 | int(a[1]) - 0x41)
	}
	return o
}

func TestCountingTwo(t *testing.T) {
	forms := []string{"[A+B]", "[(A+B)]", "[(A)+(B)]", "[A][B]", "[A]+[B]", "[A+[B]]", "[[A]+B]", "[[A][B]]", "[0+A+B]", "[A+0+B]", "[A+B+0]", "[A-0+B]", "[A+B-0]", "[A]+0+[B]", "0[A][B]", "0+[A]+[B]", "[A][0][B]", "[0][A+B]", "[A+1][B-1]", "[A-1]+[B+1]", "2[A-1][B-1]", "[A+NEVER-NEVER+B]", "[A[B]]"}
	for _, a := range counted {
		for _, b := range counted {
			rm, may := rms[a+" "+b]
			for _, s := range forms {
				s = strings.NewReplacer("A", a, "B", b).Replace(s)
				if !may {
					wantWrong(t, s, api.ErrForm)
					continue
				}
				want := mem(rm, value.Num(0))
				want.V.Known = !strings.Contains(s, "NEVER")
				wantOperand(t, s, want)
				wantOperand(t, "XW+"+s, mem(rm, api.Value{N: 10, From: 1, Which: 1, Type: 2, Known: want.V.Known}))
			}
			for _, s := range []string{"[A-B]", "[A]-[B]", "[A*B]", "[A][-B]", "[A AND B]", "[A EQ B]", "[A B]", "[A,B]", "[A:B]", "A+[B]", "[A]+B", "[A]B", "A[B]", "[A+B", "A+B]", "[A-(B)]", "[A+-B]", "[A][B", "[A]B]"} {
				wantWrong(t, strings.NewReplacer("A", a, "B", b).Replace(s), api.ErrForm)
			}
		}
	}
	if rms["BX SI"] != 0 || len(rms) != 13 {
		t.Error("the list of what may be together is another")
	}
}

// No three, and no other registers.
func TestNotCounting(t *testing.T) {
	for _, a := range counted {
		for _, b := range counted {
			for _, c := range counted {
				for _, s := range []string{"[A+B+C]", "[A][B][C]", "[A+B][C]", "[A]+[B]+[C]", "[A+(B+C)]"} {
					wantWrong(t, strings.NewReplacer("A", a, "B", b, "C", c).Replace(s), api.ErrForm)
				}
			}
		}
	}
	for n, r := range all {
		if rms[r] != 0 {
			continue
		}
		for _, s := range []string{"[R]", "[R+4]", "[4+R]", "[BX+R]", "[R+SI]", "[BX][R]", "[R][BX]", "4[R]", "XW[R]", "[(R)]", "[[R]]", "[-R]", "[R*2]", "[WORD PTR R]", "[SHORT R]", "[ES:R]", "[4]+[R]", "[BX+SI+R]", "[4]R", "R[4]"} {
			wantWrong(t, strings.ReplaceAll(s, "R", r), api.ErrForm)
		}
		wantOperand(t, r, register(n))
	}
}

func TestMemoryByHand(t *testing.T) {
	for _, c := range []struct {
		s    string
		want api.Operand
	}{
		{"[4]", mem(8, value.Num(4))}, {"[0]", mem(8, value.Num(0))}, {"[-4]", mem(8, value.Num(-4))}, {"[4]+2", mem(8, value.Num(6))}, {"[4]-2", mem(8, value.Num(2))}, {"2+[4]", mem(8, value.Num(6))}, {"[4][2]", mem(8, value.Num(6))}, {"[4]+[2]", mem(8, value.Num(6))}, {"4[2]", mem(8, value.Num(6))}, {"4[2][1]", mem(8, value.Num(7))}, {"[[4]]", mem(8, value.Num(4))}, {"[4[2]]", mem(8, value.Num(6))}, {"([4])", mem(8, value.Num(4))}, {"(4)[2]", mem(8, value.Num(6))}, {"'A'[2]", mem(8, value.Num(0x43))}, {"['A']", mem(8, value.Num(0x41))},
		{"[2*3]", mem(8, value.Num(6))}, {"2*3[4]+1*0", api.Operand{}}, {"[BX+2*3]", mem(7, value.Num(6))}, {"[2*3+BX-1]", mem(7, value.Num(5))}, {"[BX+(5 AND 4)]", mem(7, value.Num(4))}, {"[BX][3 EQ 3]", mem(7, value.Num(-1))}, {"[BX+7FFFFFFFH+1]", mem(7, value.Num(least))}, {"[BX-80000000H-1]", mem(7, value.Num(most))},
		{"[XW]", mem(8, words)}, {"[LN]", mem(8, nears)}, {"[LF]", mem(8, fars)}, {"[OFF]", mem(8, offset)}, {"[PARA]", mem(8, para)}, {"[FIVE]", mem(8, five)}, {"[NEVER]", mem(8, unknown(0))}, {"[LATER]", mem(8, later)}, {"[$]", mem(8, here)}, {"$[2]", mem(8, farther(here, 2))}, {"$[BX]", mem(7, here)}, {"LN[2]", mem(8, farther(nears, 2))}, {"LF[SI]", mem(4, fars)}, {"NEVER[BX]", mem(7, unknown(0))}, {"PLAIN[DI]", mem(5, bare)}, {"OFF[BX]", mem(7, offset)}, {"TYPED[BX]", mem(7, typed)},
		{"XW[2]", mem(8, farther(words, 2))}, {"2[XW]", mem(8, farther(words, 2))}, {"[XW][2]", mem(8, farther(words, 2))}, {"[XW+2]", mem(8, farther(words, 2))}, {"[XW]-2", mem(8, farther(words, -2))}, {"XW[-2]", mem(8, farther(words, -2))}, {"XW[2][3]", mem(8, farther(words, 5))}, {"[XW-XB]", mem(8, value.Num(6))}, {"XW[BX]-XB", mem(7, value.Num(6))}, {"[XW]-XB", mem(8, value.Num(6))}, {"XW[XW-XB]", mem(8, farther(words, 6))},
		{"XW[BX][SI]", mem(0, words)}, {"XW[BX+SI]", mem(0, words)}, {"XW[BX+2][DI-1]", mem(1, farther(words, 1))}, {"[BP+XD]", mem(6, longs)}, {"XQ[BP][SI]+1", mem(2, farther(quads, 1))}, {"EXT[BP][DI]", mem(3, taken)}, {"[BX].4", api.Operand{}},
		{"[ES:4]", in(mem(8, value.Num(4)), api.ES)}, {"[BYTE PTR 4]", pointing(mem(8, value.Num(4)), api.TypeByte)}, {"[SHORT 4]", short(mem(8, value.Num(4)))},
	} {
		if c.want == (api.Operand{}) {
			wantWrong(t, c.s, api.ErrForm)
			continue
		}
		wantOperand(t, c.s, c.want)
	}
	for _, s := range []string{"XW[XB]", "[XW+XB]", "[XW][XB]", "[XW]+XB", "XW+[XB]", "5-[4]", "[5]-[4]", "[5]*2", "2*[5]", "[5] AND 1", "[5] EQ 5", "[5] EQ [5]", "-[5]", "+[5]", "NOT [5]", "[5]-XW", "[5][0-XW]", "XW-[XB]", "[XW]-[XB]", "OFF[XW]", "PARA[OFF]"} {
		wantWrong(t, s, api.ErrForm)
	}
}
