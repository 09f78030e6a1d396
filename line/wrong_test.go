package line

import (
	"strings"
	"testing"

	"hansom/api"
)

// Each kind of piece that is none, wherever it stands.
func TestParseOfNoPieces(t *testing.T) {
	for _, s := range []string{"!", "#", "%", "&", "<", ">", "\\", "^", "`", "{", "|", "}", "~", "'", "\"", "'x", "'x\"", "1G", "12x", "2B", "%1", "1%", "1%%2", "1%2%3", "1%G", "9007199254740993", "20000000000001H", "\x00", "\n", "\x1f", "\x7f", "\x80", "\xff", "é"} {
		for _, ahead := range []string{"", "a: ", "a: rep ", "rep ", "mov ", "a: mov ax,", "x db ", "x = ", "5 ", ": ", "rep 5 "} {
			wantWrong(t, ahead+s, api.ErrForm)
			wantWrong(t, ahead+s+" x", api.ErrForm)
			wantWrong(t, ahead+s+strings.Repeat(" ", 200), api.ErrBig)
		}
	}
	for _, s := range []string{"\x00", "\n", "\x80", "\xff", "é"} {
		wantWrong(t, ";"+s, api.ErrForm)
		wantWrong(t, "nop ;"+s, api.ErrForm)
		wantWrong(t, "a: db '"+s+"'", api.ErrForm)
	}
}

// A line may have 200 letters, and no more, whatever they tell.
func TestParseOfLongLines(t *testing.T) {
	for _, s := range []string{"", "a: mov ax,1", "rep movsb", "x db 5", "x = 5", "; a remark", "nop ;"} {
		want, e := modelParse(s)
		if e != api.OK {
			t.Fatal(s)
		}
		for _, many := range []int{198, 199, 200} {
			wantLine(t, s+strings.Repeat(" ", many-len(s)), want)
			wantLine(t, strings.Repeat("\t", many-len(s))+s, want)
			wantLine(t, s+";"+strings.Repeat(";", many-len(s)-1), want)
		}
		for _, many := range []int{201, 202, 400, 10000, 70000} {
			wantWrong(t, s+strings.Repeat(" ", many-len(s)), api.ErrBig)
			wantWrong(t, strings.Repeat("\t", many-len(s))+s, api.ErrBig)
			wantWrong(t, s+";"+strings.Repeat(";", many-len(s)-1), api.ErrBig)
		}
	}
	for _, s := range []string{"5 nop", "'x' db 1", "a: ,", "rep 5", "!", "'"} {
		wantWrong(t, strings.Repeat(" ", 200-len(s))+s, api.ErrForm)
		wantWrong(t, strings.Repeat(" ", 201-len(s))+s, api.ErrBig)
	}
	long := strings.Repeat("A", 200)
	wantLine(t, long, api.Stmt{Op: long})
	wantLine(t, strings.ToLower(long[:199])+":", api.Stmt{Label: long[:199], Colon: true})
	wantLine(t, long[:197]+" DB", api.Stmt{Label: long[:197], Op: "DB"})
	wantWrong(t, long+":", api.ErrBig)
	wantWrong(t, long+" DB", api.ErrBig)
	commas := "DB" + strings.Repeat(",", 198)
	if s, e := Parse(commas); e != api.OK || s.Op != "DB" || len(s.Args) != 199 {
		t.Error(len(s.Args), e)
	}
}

// besideModel: a line says what the model tells of it.
func besideModel(t *testing.T, s string) {
	t.Helper()
	if want, e := modelParse(s); e == api.OK {
		wantLine(t, s, want)
	} else {
		wantWrong(t, s, e)
	}
}

// Every short line of the pieces that matter.
func TestParseOfEveryShort(t *testing.T) {
	words := []string{"a", "rep", "Lock", "db", "proc", "=", ":", ",", "(", ")", "5", "'db'", "':'"}
	var longer func(s string, many int)
	longer = func(s string, many int) {
		besideModel(t, s)
		if many < 5 {
			for _, w := range words[:len(words)-many] {
				longer(s+" "+w, many+1)
			}
		}
	}
	longer("", 0)
}

func TestParseBesideModel(t *testing.T) {
	d := drawer(312)
	few := strings.Fields("a b mov rep LOCK Repne db x equ = : , ( ) [ ] 5 'x' ',' ds ends + 1%2 ; \" ! 1G")
	all := append(few, others...)
	all = append(append(all, naming...), prefixes...)
	for range 5000 {
		besideModel(t, d.of(d.below(12), few[:len(few)-d.below(8)], 1))
		besideModel(t, d.of(d.below(12), few, 0))
		besideModel(t, d.of(d.below(20), all, 1))
		besideModel(t, d.of(d.below(60), few, 1))
	}
	for range 3000 {
		b := make([]byte, d.below(30))
		for i := range b {
			b[i] = byte(d.below(256))
		}
		besideModel(t, string(b))
		for i := range b {
			b[i] = "ab:=,() 'D;dr5"[d.below(14)]
		}
		besideModel(t, string(b))
	}
}
