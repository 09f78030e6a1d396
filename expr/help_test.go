package expr

import (
	"fmt"
	"strings"
	"testing"

	"hansom/api"
	"hansom/lex"
	"hansom/value"
)

const (
	least = -1 << 31
	most  = 1<<31 - 1
)

// drawer draws numbers by a rule.
type drawer uint64

func (d *drawer) below(n int) int {
	*d = *d*6364136223846793005 + 1442695040888963407
	return int(uint64(*d>>33) % uint64(n))
}

// The pieces, as tests tell them.
func name(s string) api.Token { return api.Token{Kind: api.TokName, S: s} }
func num(n uint64) api.Token  { return api.Token{Kind: api.TokNum, N: n} }
func text(s string) api.Token { return api.Token{Kind: api.TokText, S: s} }
func sign(s string) api.Token { return api.Token{Kind: api.TokSign, S: s} }

// The values that names have in tests.
var (
	bytes  = api.Value{N: 4, From: api.FromSeg, Which: 1, Type: api.TypeByte, Known: true}
	words  = api.Value{N: 10, From: api.FromSeg, Which: 1, Type: api.TypeWord, Known: true}
	longs  = api.Value{N: 20, From: api.FromSeg, Which: 2, Type: api.TypeLong, Known: true}
	quads  = api.Value{N: 40, From: api.FromGroup, Which: 1, Type: api.TypeQuad, Known: true}
	nears  = api.Value{N: 100, From: api.FromSeg, Which: 1, Type: api.TypeNear, Known: true}
	fars   = api.Value{N: 200, From: api.FromExt, Which: 3, Type: api.TypeFar, Known: true}
	bare   = api.Value{N: 6, From: api.FromSeg, Which: 1, Known: true}
	taken  = api.Value{From: api.FromExt, Which: 1, Type: api.TypeWord, Known: true}
	five   = api.Value{N: 5, Known: true}
	minus  = api.Value{N: -7, Known: true}
	later  = api.Value{N: 8, From: api.FromSeg, Which: 1, Type: api.TypeWord}
	offset = api.Value{N: 12, From: api.FromSeg, Which: 1, Wants: api.WantsOff, Known: true}
	para   = api.Value{N: 0, From: api.FromSeg, Which: 2, Wants: api.WantsSeg, Known: true}
	typed  = api.Value{N: 9, Type: api.TypeWord, Known: true}
	here   = api.Value{N: 77, From: api.FromSeg, Which: 1, Type: api.TypeNear, Known: true}
)

// told is a table of these; LOST is a name without a value.
func told() api.Table {
	return api.Table{
		Names:  []string{"XB", "XW", "XD", "XQ", "LN", "LF", "PLAIN", "EXT", "FIVE", "MINUS", "LATER", "OFF", "PARA", "TYPED", "LOST"},
		Values: []api.Value{bytes, words, longs, quads, nears, fars, bare, taken, five, minus, later, offset, para, typed},
		Here:   here,
	}
}

// pieces are those of each word of a text, as a whole line may not be so long as some of these.
func pieces(t *testing.T, s string) []api.Token {
	t.Helper()
	var l []api.Token
	for _, word := range strings.Fields(s) {
		more, e := lex.Line(word)
		if e != api.OK {
			t.Fatalf("%q has no pieces", word)
		}
		l = append(l, more...)
	}
	return l
}

// wantOperand: a text is that operand.
func wantOperand(t *testing.T, s string, want api.Operand) {
	t.Helper()
	wantPieces(t, s, pieces(t, s), told(), want)
}

// wantPieces: pieces are that operand.
func wantPieces(t *testing.T, what string, l []api.Token, table api.Table, want api.Operand) {
	t.Helper()
	if got, e := Operand(l, table); got != want || e != api.OK {
		t.Errorf("%s: %+v, %d, not %+v", what, got, e, want)
	}
}

// wantWrong: a text is no operand, and no value.
func wantWrong(t *testing.T, s string, want api.Errno) {
	t.Helper()
	wantNoPieces(t, s, pieces(t, s), told(), want)
}

// wantNoPieces: pieces are no operand, and no value, and nothing is told beside that.
func wantNoPieces(t *testing.T, what string, l []api.Token, table api.Table, want api.Errno) {
	t.Helper()
	if got, e := Operand(l, table); got != (api.Operand{}) || e != want {
		t.Errorf("%s: %+v, %d, not %d", what, got, e, want)
	}
	if got, e := Number(l, table); got != (api.Value{}) || e != want {
		t.Errorf("%s: number %+v, %d, not %d", what, got, e, want)
	}
}

// imm is a value as an operand.
func imm(v api.Value) api.Operand {
	return api.Operand{Kind: api.OpdImm, RM: 8, V: v, Type: v.Type}
}

// mem is something in memory as an operand: its RM, and its value.
func mem(rm int, v api.Value) api.Operand {
	return api.Operand{Kind: api.OpdMem, RM: rm, V: v, Type: v.Type}
}

// number is a number alone as an operand.
func number(n int) api.Operand { return imm(value.Num(n)) }

// farther is a value so much farther.
func farther(v api.Value, n int) api.Value {
	v.N += n
	return v
}

// wants is a value of which that is wanted, so that it has no type.
func wants(v api.Value, what int) api.Value {
	v.Wants, v.Type = what, api.TypeNone
	return v
}

// unknown is a number alone that is not known.
func unknown(n int) api.Value { return api.Value{N: n} }

// pointing is an operand with the type that PTR tells.
func pointing(o api.Operand, kind int) api.Operand {
	o.Type = kind
	return o
}

// in is an operand in the segment of a register.
func in(o api.Operand, segment int) api.Operand {
	o.Over = segment + 1
	return o
}

// short is an operand with SHORT ahead of it.
func short(o api.Operand) api.Operand {
	o.Short = true
	return o
}

// show is pieces as a text.
func show(l []api.Token) string {
	s := ""
	for _, t := range l {
		switch t.Kind {
		case api.TokNum:
			s += fmt.Sprint(t.N, " ")
		case api.TokText:
			s += fmt.Sprintf("%q ", t.S)
		case api.TokName, api.TokSign:
			s += t.S + " "
		default:
			s += fmt.Sprintf("%+v ", t)
		}
	}
	return s
}
