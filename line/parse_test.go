package line

import (
	"slices"
	"strings"
	"testing"

	"hansom/api"
)

func TestParseOfNothing(t *testing.T) {
	for _, s := range []string{"", " ", "\t", "\r", " \t\r ", ";", " ; a remark", ";a: rep movsb", "\t;;", strings.Repeat(" ", 200), ";" + strings.Repeat("x", 199), "; 'no end", ";("} {
		wantLine(t, s, api.Stmt{})
	}
}

func TestParseByHand(t *testing.T) {
	for _, c := range []struct {
		text          string
		label         string
		colon         bool
		pre, op, args string
	}{
		{"A: MOV AX,1", "A", true, "", "MOV", "AX|1"},
		{"a:", "A", true, "", "", ""},
		{" a : ; here", "A", true, "", "", ""},
		{"a:nop", "A", true, "", "NOP", ""},
		{"a: inc ax", "A", true, "", "INC", "AX"},
		{"nop", "", false, "", "NOP", ""},
		{"ret 4", "", false, "", "RET", "4"},
		{"mov ax,[bx+si+4]", "", false, "", "MOV", "AX|[BX+SI+4]"},
		{"Mov Word Ptr es:[di], 12H ; put", "", false, "", "MOV", "WORD PTR ES:[DI]|12H"},
		{"rep movsb", "", false, "REP", "MOVSB", ""},
		{"a: rep movsb", "A", true, "REP", "MOVSB", ""},
		{"a:repne scasb", "A", true, "REPNE", "SCASB", ""},
		{"lock inc byte ptr [bx]", "", false, "LOCK", "INC", "BYTE PTR [BX]"},
		{"lock repz cmps a,b", "", false, "LOCK REPZ", "CMPS", "A|B"},
		{"a: rep rep lock movsb", "A", true, "REP REP LOCK", "MOVSB", ""},
		{"x db 1,2,3", "X", false, "", "DB", "1|2|3"},
		{"x dw 3 dup(1,2),?", "X", false, "", "DW", "3 dup(1,2)|?"},
		{"x dq 1%3", "X", false, "", "DQ", "1%3"},
		{"x = 5", "X", false, "", "=", "5"},
		{"x=5", "X", false, "", "=", "5"},
		{"x=", "X", false, "", "=", ""},
		{"x = = 5", "X", false, "", "=", "= 5"},
		{"=", "", false, "", "=", ""},
		{"= 5", "", false, "", "=", "5"},
		{"==", "", false, "", "=", "="},
		{"=:5", "", false, "", "=", ":5"},
		{"= db 5", "", false, "", "=", "db 5"},
		{"a: = 5", "A", true, "", "=", "5"},
		{"a:= 5", "A", true, "", "=", "5"},
		{"rep = 5", "", false, "REP", "=", "5"},
		{"a: rep = 5", "A", true, "REP", "=", "5"},
		{"code segment word public 'code'", "CODE", false, "", "SEGMENT", "WORD PUBLIC 'code'"},
		{"code ends", "CODE", false, "", "ENDS", ""},
		{"both group a,b", "BOTH", false, "", "GROUP", "A|B"},
		{"p proc far", "P", false, "", "PROC", "FAR"},
		{"assume cs:code,ds:nothing", "", false, "", "ASSUME", "CS:CODE|DS:NOTHING"},
		{"extrn a:near,b:word", "", false, "", "EXTRN", "A:NEAR|B:WORD"},
		{"end a", "", false, "", "END", "A"},
		{"end", "", false, "", "END", ""},
		{"mov", "", false, "", "MOV", ""},
		{"mov ,", "", false, "", "MOV", "|"},
		{"mov ax,", "", false, "", "MOV", "AX|"},
		{"mov (ax,bx),cx", "", false, "", "MOV", "(AX,BX)|CX"},
		{"mov )ax,bx", "", false, "", "MOV", ")AX|BX"},
		{"mov (ax,bx", "", false, "", "MOV", "(AX,BX"},
		{"mov:", "MOV", true, "", "", ""},
		{"mov: mov", "MOV", true, "", "MOV", ""},
		{"cs:mov ax,1", "CS", true, "", "MOV", "AX|1"},
		{"? db ?", "?", false, "", "DB", "?"},
		{"$: $ $,$", "$", true, "", "$", "$|$"},
	} {
		wantLine(t, c.text, stmt(t, c.label, c.colon, c.pre, c.op, c.args))
		wantLine(t, strings.ToLower(c.text), stmt(t, c.label, c.colon, c.pre, c.op, strings.ToLower(c.args)))
		wantLine(t, "\t"+c.text+" \r", stmt(t, c.label, c.colon, c.pre, c.op, c.args))
		wantLine(t, c.text+";'x:,(", stmt(t, c.label, c.colon, c.pre, c.op, c.args))
	}
}

// Each prefix, alone, with each other, and many, with and without all that may stand around them.
func TestParseOfPrefixes(t *testing.T) {
	for _, a := range prefixes {
		for _, pre := range []string{a, a + " LOCK", "REP " + a, a + " " + a + " " + a, a + " REPNZ REPE LOCK " + a} {
			wantLine(t, pre, stmt(t, "", false, pre, "", ""))
			wantLine(t, strings.ToLower(pre)+" ; no more", stmt(t, "", false, pre, "", ""))
			wantLine(t, "a:"+pre, stmt(t, "A", true, pre, "", ""))
			wantLine(t, pre+" movsb", stmt(t, "", false, pre, "MOVSB", ""))
			wantLine(t, "a: "+pre+" movsb", stmt(t, "A", true, pre, "MOVSB", ""))
			wantLine(t, "a: "+pre+" movs a,b", stmt(t, "A", true, pre, "MOVS", "a|b"))
			wantLine(t, pre+" movs "+pre+","+pre, stmt(t, "", false, pre, "MOVS", pre+"|"+pre))
		}
		wantLine(t, a+":", stmt(t, a, true, "", "", ""))
		wantLine(t, a+": "+a, stmt(t, a, true, a, "", ""))
		wantLine(t, a+": nop", stmt(t, a, true, "", "NOP", ""))
		wantLine(t, "mov "+a, stmt(t, "", false, "", "MOV", a))
		wantLine(t, "mov "+a+" = 5", stmt(t, "", false, "", "MOV", a+" = 5"))
		wantLine(t, "x db "+a, stmt(t, "X", false, "", "DB", a))
		wantWrong(t, a+" "+a+":", api.ErrForm)
		wantWrong(t, "a: "+a+": movsb", api.ErrForm)
		wantWrong(t, "'"+a+"' movsb", api.ErrForm)
		wantWrong(t, a+" 'movsb'", api.ErrForm)
		wantWrong(t, a+" , movsb", api.ErrForm)
	}
	wantLine(t, strings.Repeat("rep ", 50), stmt(t, "", false, strings.Repeat("REP ", 50), "", ""))
}

// Each word that has its name ahead of it.
func TestParseOfNames(t *testing.T) {
	for _, w := range naming {
		for _, bars := range []string{"", "5", "a|b", "'x'|'y'", "(1,2)|3", w, w + "|" + w, "rep", ":", "a:", "|", "|5|"} {
			args := " " + strings.ReplaceAll(bars, "|", ",")
			wantLine(t, "x "+w+args, stmt(t, "X", false, "", w, bars))
			wantLine(t, "X "+strings.ToLower(w)+args, stmt(t, "X", false, "", w, bars))
			wantLine(t, "mov "+w+args, stmt(t, "MOV", false, "", w, bars))
			wantLine(t, "ax "+w+args, stmt(t, "AX", false, "", w, bars))
			wantLine(t, "x: "+w+args, stmt(t, "X", true, "", w, bars))
			wantLine(t, "x: rep "+w+args, stmt(t, "X", true, "REP", w, bars))
			wantLine(t, "rep "+w+args, stmt(t, "", false, "REP", w, bars))
			wantLine(t, "lock repe "+w+args, stmt(t, "", false, "LOCK REPE", w, bars))
			wantLine(t, "x: y "+w+args, stmt(t, "X", true, "", "Y", w+" "+bars))
			wantLine(t, "x: rep y "+w+args, stmt(t, "X", true, "REP", "Y", w+" "+bars))
			wantLine(t, "rep y "+w+args, stmt(t, "", false, "REP", "Y", w+" "+bars))
			wantLine(t, "x y "+w+args, stmt(t, "", false, "", "X", "Y "+w+" "+bars))
			wantLine(t, "x 'y' "+w+args, stmt(t, "", false, "", "X", "'y' "+w+" "+bars))
			wantLine(t, "x '"+w+"'"+args, stmt(t, "", false, "", "X", "'"+w+"' "+bars))
			for _, ahead := range []string{"5 " + w, "'x' " + w, "'" + w + "'", "x: '" + w + "'", "rep '" + w + "'", ": " + w, "( " + w, "1%2 " + w} {
				wantWrong(t, ahead+args, api.ErrForm)
			}
		}
		wantLine(t, w, stmt(t, "", false, "", w, ""))
		wantLine(t, w+" 5", stmt(t, "", false, "", w, "5"))
		wantLine(t, w+" a,b", stmt(t, "", false, "", w, "a|b"))
		wantLine(t, w+",5", stmt(t, "", false, "", w, "|5"))
	}
}

// A word that has its name ahead of it may be that name itself: = is none.
func TestParseOfWordsAsNames(t *testing.T) {
	for _, a := range naming {
		for _, b := range naming {
			if a == "=" {
				wantLine(t, a+" "+b+" 5", stmt(t, "", false, "", a, b+" 5"))
				wantLine(t, a+" : "+b, stmt(t, "", false, "", a, ": "+b))
				continue
			}
			wantLine(t, a+" "+b, stmt(t, a, false, "", b, ""))
			wantLine(t, a+" "+b+" 5,6", stmt(t, a, false, "", b, "5|6"))
			wantLine(t, a+": "+b+" 5", stmt(t, a, true, "", b, "5"))
		}
	}
}

// A name ahead of another word is itself what is to be done.
func TestParseOfOtherWords(t *testing.T) {
	for _, a := range others {
		wantLine(t, a, stmt(t, "", false, "", a, ""))
		wantLine(t, "rep "+a+" 1,2", stmt(t, "", false, "REP", a, "1|2"))
		wantLine(t, "l: "+a+" 1,2", stmt(t, "L", true, "", a, "1|2"))
		for _, b := range others {
			wantLine(t, a+" "+b, stmt(t, "", false, "", a, b))
			wantLine(t, a+" "+b+" = 5", stmt(t, "", false, "", a, b+" = 5"))
			wantLine(t, a+": "+b, stmt(t, a, true, "", b, ""))
		}
	}
}

// What stands where OP is, and is no name, nor = .
func TestParseOfNoWord(t *testing.T) {
	for _, s := range []string{"5", "0FFH", "1%2", "''", "'mov'", "\"=\"", "'='", "'db'", "+", "-", "*", "/", "(", ")", "[", "]", ",", ":", "."} {
		for _, ahead := range []string{"", "a: ", "rep ", "a: rep ", "rep lock ", "a: lock rep repe "} {
			for _, behind := range []string{"", " mov", " mov ax,1", " = 5", " db 5", ": nop", " a: nop", "(", " ; x"} {
				if s == ":" && (ahead == "rep " || ahead == "") {
					continue
				}
				wantWrong(t, ahead+s+behind, api.ErrForm)
			}
		}
	}
	for _, s := range []string{":", ": nop", ":a: nop", ": = 5", "a::", "a:: nop", "a: : nop", "rep rep:", "rep rep: nop", "a: rep:", "5: nop", "'a': nop", "[a]: nop"} {
		wantWrong(t, s, api.ErrForm)
	}
}

// There is one label: a second one is what is to be done, and its colon is told with what stands behind it.
func TestParseOfTwoLabels(t *testing.T) {
	wantLine(t, "a: b: mov ax,1", stmt(t, "A", true, "", "B", ": mov ax|1"))
	wantLine(t, "a: b:", stmt(t, "A", true, "", "B", ":"))
	wantLine(t, "a b: mov ax,1", stmt(t, "", false, "", "A", "b: mov ax|1"))
	wantLine(t, "rep a: movsb", stmt(t, "", false, "REP", "A", ": movsb"))
	wantLine(t, "a: rep b: movsb", stmt(t, "A", true, "REP", "B", ": movsb"))
	wantLine(t, "a: db: 5", stmt(t, "A", true, "", "DB", ": 5"))
	wantLine(t, "a db: 5", stmt(t, "A", false, "", "DB", ": 5"))
}

// What texts among operands hold is no sign, and ends no line.
func TestParseOfTexts(t *testing.T) {
	for _, s := range []string{",", ":", ";", "(", ")", "[", "]", "=", "a,b", "(a,b", "a)b", ";;", "x: mov ax,1 ; no", "\t", " ", "DB", "rep", "\"", ",\"(\";:"} {
		in := "'" + s + "'"
		one := api.Token{Kind: api.TokText, S: s}
		wantLine(t, "x db "+in, api.Stmt{Label: "X", Op: "DB", Args: [][]api.Token{{one}}})
		wantLine(t, "x: db "+in+","+in, api.Stmt{Label: "X", Colon: true, Op: "DB", Args: [][]api.Token{{one}, {one}}})
		wantLine(t, "rep db "+in+";"+in, api.Stmt{Pre: []string{"REP"}, Op: "DB", Args: [][]api.Token{{one}}})
		wantLine(t, "db ("+in+","+in+"),"+in, api.Stmt{Op: "DB", Args: [][]api.Token{slices.Concat(pieces(t, "("), []api.Token{one}, pieces(t, ","), []api.Token{one}, pieces(t, ")")), {one}}})
		wantWrong(t, in+" db 5", api.ErrForm)
		wantWrong(t, in+": nop", api.ErrForm)
	}
}
