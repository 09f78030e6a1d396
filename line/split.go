package line

import "hansom/api"

// Split is pieces, parted by commas that are in no brackets; of none none.
func Split(l []api.Token) [][]api.Token {
	if len(l) == 0 {
		return nil
	}
	var parts [][]api.Token
	from, open := 0, 0
	for i, t := range l {
		open = deep(open, t)
		if open == 0 && sign(t, ",") {
			parts = append(parts, part(l[from:i]))
			from = i + 1
		}
	}
	return append(parts, part(l[from:]))
}

// part is pieces of their own: what is done to them changes no other part, and not what was handed in.
func part(l []api.Token) []api.Token { return append([]api.Token(nil), l...) }

// deep is how many brackets are open behind a piece. One that closes what was never opened leaves none open, so that commas behind it part.
func deep(open int, t api.Token) int {
	switch {
	case sign(t, "("), sign(t, "["):
		return open + 1
	case open > 0 && (sign(t, ")") || sign(t, "]")):
		return open - 1
	}
	return open
}

// sign tells whether a piece is that sign: a text of the same letters is none.
func sign(t api.Token, s string) bool { return t.Kind == api.TokSign && t.S == s }
