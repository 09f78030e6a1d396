package line

import (
	"slices"
	"strings"

	"hansom/api"
	"hansom/lex"
)

// open: brackets that are open behind these pieces, where each that closes takes the one ahead of it that is open.
func open(l []api.Token) bool {
	s := ""
	for _, t := range l {
		if t.Kind == api.TokSign && len(t.S) == 1 {
			s += map[string]string{"(": "<", "[": "<", ")": ">", "]": ">"}[t.S]
		}
	}
	for strings.Contains(s, "<>") {
		s = strings.ReplaceAll(s, "<>", "")
	}
	return strings.Contains(s, "<")
}

// modelSplit is Split, by asking for each comma whether all ahead of it leaves a bracket open.
func modelSplit(l []api.Token) [][]api.Token {
	if len(l) == 0 {
		return nil
	}
	parts := [][]api.Token{nil}
	for i, t := range l {
		if t == (api.Token{Kind: api.TokSign, S: ","}) && !open(l[:i]) {
			parts = append(parts, nil)
		} else {
			parts[len(parts)-1] = append(parts[len(parts)-1], t)
		}
	}
	return parts
}

// shape is a letter for each piece: P a prefix, W a word that has its name ahead of it, N another name, E =, C a colon, x something else.
func shape(l []api.Token) string {
	s := ""
	for _, t := range l {
		switch {
		case t.Kind == api.TokName && slices.Contains(prefixes, t.S):
			s += "P"
		case t.Kind == api.TokName && slices.Contains(naming, t.S):
			s += "W"
		case t.Kind == api.TokName:
			s += "N"
		case t.Kind == api.TokSign && t.S == "=":
			s += "E"
		case t.Kind == api.TokSign && t.S == ":":
			s += "C"
		default:
			s += "x"
		}
	}
	return s
}

// modelParse is Parse, by what the line's shape begins with.
func modelParse(text string) (api.Stmt, api.Errno) {
	l, e := lex.Line(text)
	if e != api.OK {
		return api.Stmt{}, e
	}
	var s api.Stmt
	at := 0
	switch form := shape(l); {
	case len(form) >= 2 && strings.Contains("NW NE WW WE", form[:2]):
		s.Label, at = l[0].S, 1
	case len(form) >= 2 && strings.Contains("NC WC PC", form[:2]):
		s.Label, s.Colon, at = l[0].S, true, 2
	}
	form := shape(l)[at:]
	for range len(form) - len(strings.TrimLeft(form, "P")) {
		s.Pre = append(s.Pre, l[at].S)
		at++
	}
	if at == len(l) {
		return s, api.OK
	}
	if strings.Contains("Cx", shape(l[at:at+1])) {
		return api.Stmt{}, api.ErrForm
	}
	s.Op, s.Args = l[at].S, modelSplit(l[at+1:])
	return s, api.OK
}
