package lex

import (
	"math/big"
	"regexp"
	"slices"
	"strings"
	"testing"

	"hansom/api"
)

// drawer draws numbers by a rule.
type drawer uint32

func (d *drawer) byte() byte {
	*d = *d*1664525 + 1013904223
	return byte(*d >> 24)
}

func (d *drawer) below(n int) int { return (int(d.byte())<<8 | int(d.byte())) % n }

// text draws a text of so many of those letters.
func (d *drawer) text(many int, letters string) string {
	b := make([]byte, many)
	for i := range b {
		b[i] = letters[d.below(len(letters))]
	}
	return string(b)
}

// The pieces, as tests tell them.
func name(s string) api.Token     { return api.Token{Kind: api.TokName, S: s} }
func num(n uint64) api.Token      { return api.Token{Kind: api.TokNum, N: n} }
func text(s string) api.Token     { return api.Token{Kind: api.TokText, S: s} }
func sign(s string) api.Token     { return api.Token{Kind: api.TokSign, S: s} }
func ratio(n, d uint64) api.Token { return api.Token{Kind: api.TokRatio, N: n, D: d} }

// wantLine: a line is these pieces.
func wantLine(t *testing.T, s string, want ...api.Token) {
	t.Helper()
	got, e := Line(s)
	if e != api.OK || !slices.Equal(got, want) {
		t.Errorf("Line(%q): %v, %d, not %v", s, got, e, want)
	}
}

// wantWrong: a line is none, and nothing is told beside that.
func wantWrong(t *testing.T, s string, want api.Errno) {
	t.Helper()
	got, e := Line(s)
	if e != want || len(got) != 0 {
		t.Errorf("Line(%q): %v, %d, not %d", s, got, e, want)
	}
}

// wantNumber: a text is that number.
func wantNumber(t *testing.T, s string, want uint64) {
	t.Helper()
	if n, ok := Number(s); n != want || !ok {
		t.Errorf("Number(%q): %d, %v, not %d", s, n, ok, want)
	}
}

// wantNone: a text is no number.
func wantNone(t *testing.T, s string) {
	t.Helper()
	if n, ok := Number(s); n != 0 || ok {
		t.Errorf("Number(%q): %d, %v, though it is none", s, n, ok)
	}
}

var (
	asNumber = regexp.MustCompile(`^(?:([0-9][0-9A-Fa-f]*)[Hh]|([01]+)[Bb]|([0-9]+))$`)
	asPiece  = regexp.MustCompile(`^(?:([A-Za-z_@?$][A-Za-z0-9_@?$]*)|([0-9][0-9A-Za-z]*)(?:%([0-9][0-9A-Za-z]*))?|('[^']*'|"[^"]*")|([-+*/()\[\],:.=]))`)
	asLine   = regexp.MustCompile(`^[\t\r -~]*$`)
)

// modelNumber is Number, by great numbers.
func modelNumber(s string) (uint64, bool) {
	m := asNumber.FindStringSubmatch(s)
	if m == nil {
		return 0, false
	}
	for i, base := range []int{16, 2, 10} {
		if m[i+1] == "" {
			continue
		}
		n, ok := new(big.Int).SetString(m[i+1], base)
		if !ok || n.Cmp(big.NewInt(1<<53)) > 0 {
			return 0, false
		}
		return n.Uint64(), true
	}
	return 0, false
}

// modelLine is Line, by patterns.
func modelLine(s string) ([]api.Token, api.Errno) {
	if len(s) > 200 {
		return nil, api.ErrBig
	}
	if !asLine.MatchString(s) {
		return nil, api.ErrForm
	}
	var l []api.Token
	for {
		s = strings.Trim(s, " \t\r")
		if s == "" || strings.HasPrefix(s, ";") {
			return l, api.OK
		}
		m := asPiece.FindStringSubmatch(s)
		if m == nil {
			return nil, api.ErrForm
		}
		one, ok := modelPiece(m)
		if !ok {
			return nil, api.ErrForm
		}
		l, s = append(l, one), s[len(m[0]):]
	}
}

// modelPiece is the piece of what a pattern found.
func modelPiece(m []string) (api.Token, bool) {
	switch {
	case m[1] != "":
		return name(strings.ToUpper(m[1])), true
	case m[4] != "":
		return text(m[4][1 : len(m[4])-1]), true
	case m[5] != "":
		return sign(m[5]), true
	}
	n, ok := modelNumber(m[2])
	if m[3] == "" {
		return num(n), ok
	}
	d, also := modelNumber(m[3])
	return ratio(n, d), ok && also
}
