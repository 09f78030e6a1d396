package expr

import (
	"slices"

	"hansom/api"
	"hansom/value"
)

// The words between two, from the loosest to the strongest; unjoined is of what is none.
const (
	unjoined = iota
	loosest  // OR XOR
	both     // AND
	compared
	summed
	multiplied
)

const (
	// mostDeep is how deep brackets and what stands ahead may be.
	mostDeep = 40
	// mostNested is how deep pieces are read at most, though they are told to be too deep from mostDeep on: behind that they can still be no operand at all, which is told first.
	mostNested = 1 << 16
)

// reader goes through pieces. What is wrong with them it tells by a panic with an error's number.
type reader struct {
	left    []api.Token
	table   api.Table
	deep    int
	deepest int
	inside  int // how many [ ] it is in
}

// next is the piece that comes; behind all of them TokEnd.
func (r *reader) next() api.Token { return r.behind(0) }

// behind is the piece so many behind the next one.
func (r *reader) behind(n int) api.Token {
	if n >= len(r.left) {
		return api.Token{}
	}
	return r.left[n]
}

// take is the next piece, that is gone then.
func (r *reader) take() api.Token {
	need(len(r.left) > 0)
	t := r.left[0]
	r.left = r.left[1:]
	return t
}

// must takes the next piece, that has to be this sign.
func (r *reader) must(sign string) { need(is(r.take(), api.TokSign, sign)) }

// is tells whether a piece is of a kind, and has that text.
func is(t api.Token, kind int, s string) bool { return t.Kind == kind && t.S == s }

// strength is how strong a piece joins two: unjoined: not at all.
func strength(t api.Token) int {
	switch t.Kind {
	case api.TokSign:
		return signStrength(t.S)
	case api.TokName:
		return wordStrength(t.S)
	}
	return unjoined
}

func signStrength(s string) int {
	switch s {
	case "+", "-":
		return summed
	case "*", "/":
		return multiplied
	}
	return unjoined
}

func wordStrength(s string) int {
	switch s {
	case "OR", "XOR":
		return loosest
	case "AND":
		return both
	case "EQ", "NE", "LT", "LE", "GT", "GE":
		return compared
	case "MOD", "SHL", "SHR":
		return multiplied
	}
	return unjoined
}

// expression is what comes, as far as words join it that are so strong at least.
func (r *reader) expression(least int) part {
	p := r.ahead()
	for {
		s := strength(r.next())
		if s < least {
			return p
		}
		word := r.take().S
		// Of one strength those on the left come first, so that what stands on the right has stronger ones alone.
		p = together(word, p, r.expression(s+1))
	}
}

// deeper is a part that stands one deeper than what it stands in.
func (r *reader) deeper(read func() part) part {
	r.deep++
	r.deepest = max(r.deepest, r.deep)
	if r.deep > mostNested {
		panic(api.ErrBig)
	}
	p := read()
	r.deep--
	return p
}

// ahead is one, with all that stands ahead of it.
func (r *reader) ahead() part {
	t := r.next()
	switch {
	case leads(t):
		r.take()
		return worded(t.S, r.deeper(r.ahead))
	case t.Kind == api.TokName && pointed(t.S) != api.TypeNone:
		r.take()
		need(is(r.take(), api.TokName, "PTR"))
		p := r.deeper(r.ahead)
		p.kind = pointed(t.S)
		return p
	case r.segment():
		r.take()
		r.must(":")
		p := r.deeper(r.ahead)
		p.over = Register(t.S) - firstSegment + 1
		return p
	}
	return r.one()
}

// leads tells whether a piece is a word, or a sign, that stands ahead of one, and needs no other one behind it.
func leads(t api.Token) bool {
	switch t.Kind {
	case api.TokSign:
		return signStrength(t.S) == summed
	case api.TokName:
		return t.S == "OFFSET" || t.S == "SEG" || t.S == "NOT" || t.S == "SHORT"
	}
	return false
}

// pointed is the type that a word tells with PTR behind it.
func pointed(s string) int {
	switch s {
	case "BYTE":
		return api.TypeByte
	case "WORD":
		return api.TypeWord
	case "DWORD":
		return api.TypeLong
	case "NEAR":
		return api.TypeNear
	case "FAR":
		return api.TypeFar
	}
	return api.TypeNone
}

// segment tells whether a segment register and : come.
func (r *reader) segment() bool {
	t := r.next()
	return t.Kind == api.TokName && Register(t.S) >= firstSegment && is(r.behind(1), api.TokSign, ":")
}

// one is one, and all [ ] that stand behind it.
func (r *reader) one() part {
	p := r.first()
	for is(r.next(), api.TokSign, "[") {
		p = added(p, r.first())
	}
	return p
}

// first is one without anything behind it.
func (r *reader) first() part {
	t := r.take()
	switch t.Kind {
	case api.TokNum:
		return part{v: value.Num(int(t.N))}
	case api.TokText:
		return part{v: value.Num(letters(t.S))}
	case api.TokName:
		return r.named(t.S)
	case api.TokSign:
		return r.bracketed(t.S)
	}
	panic(api.ErrForm)
}

// letters is a text of one or two letters as a number.
func letters(s string) int {
	need(len(s) == 1 || len(s) == 2)
	n := 0
	for _, c := range []byte(s) {
		n = n<<8 | int(c)
	}
	return n
}

// named is what a name means, that is no word with a place of its own.
func (r *reader) named(s string) part {
	need(wordStrength(s) == unjoined && s != "PTR")
	n := Register(s)
	switch {
	case n >= 0 && r.inside > 0:
		return counting(s)
	case n >= 0:
		return part{alone: true, number: n}
	case s == "$":
		return part{v: r.table.Here}
	}
	return part{v: r.meaning(s)}
}

// meaning is a name's value; where the table has none, it is a number alone that is not known.
func (r *reader) meaning(s string) api.Value {
	n := slices.Index(r.table.Names, s)
	if n < 0 || n >= len(r.table.Values) {
		return api.Value{}
	}
	return r.table.Values[n]
}

// bracketed is what stands in brackets, of which the first one is taken.
func (r *reader) bracketed(s string) part {
	inner := func() part { return r.expression(loosest) }
	switch s {
	case "(":
		p := r.deeper(inner)
		r.must(")")
		return p
	case "[":
		r.inside++
		p := r.deeper(inner)
		r.inside--
		r.must("]")
		p.memory = true
		return p
	}
	panic(api.ErrForm)
}
