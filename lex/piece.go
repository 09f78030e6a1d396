package lex

import (
	"strings"

	"hansom/api"
)

const (
	signs = "+-*/()[],:.="
	// between is what stands between a ratio's numbers.
	between = '%'
)

// readable: a line may have it, in a text or behind its end, too.
func readable(r rune) bool { return ' ' <= r && r <= '~' || r == '\t' || r == '\r' }

func digit(r rune) bool { return '0' <= r && r <= '9' }

func letter(r rune) bool { return 'A' <= r && r <= 'Z' || 'a' <= r && r <= 'z' }

// counted: a number may have it, though some of them make it none.
func counted(r rune) bool { return digit(r) || letter(r) }

// named: a name may have it, but that it does not begin with a digit.
func named(r rune) bool { return counted(r) || strings.ContainsRune("_@?$", r) }

// run is how many bytes a text begins with that may all be so.
func run(s string, may func(rune) bool) int {
	for i, r := range s {
		if !may(r) {
			return i
		}
	}
	return len(s)
}

// piece is what a text begins with, and its bytes; 0: it is none.
func piece(s string) (api.Token, int) {
	switch r := rune(s[0]); {
	case digit(r):
		return number(s)
	case named(r):
		n := run(s, named)
		return api.Token{Kind: api.TokName, S: Upper(s[:n])}, n
	case r == '\'' || r == '"':
		return quoted(s)
	case strings.ContainsRune(signs, r):
		return api.Token{Kind: api.TokSign, S: string(r)}, 1
	}
	return api.Token{}, 0
}

// number is a number, or a ratio: its two numbers have no blanks between them, as these would part pieces.
func number(s string) (api.Token, int) {
	n := run(s, counted)
	first, ok := Number(s[:n])
	if !ok {
		return api.Token{}, 0
	}
	if n == len(s) || s[n] != between {
		return api.Token{Kind: api.TokNum, N: first}, n
	}
	behind := n + 1
	end := behind + run(s[behind:], counted)
	second, ok := Number(s[behind:end])
	if !ok {
		return api.Token{}, 0
	}
	return api.Token{Kind: api.TokRatio, N: first, D: second}, end
}

// quoted is a text: up to the same letter that it begins with, whatever stands there. It is cloned, so that it keeps nothing of what was handed in.
func quoted(s string) (api.Token, int) {
	n := strings.IndexByte(s[1:], s[0])
	if n < 0 {
		return api.Token{}, 0
	}
	return api.Token{Kind: api.TokText, S: strings.Clone(s[1 : n+1])}, n + 2
}
