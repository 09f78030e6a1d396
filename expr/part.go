package expr

import (
	"cmp"

	"hansom/api"
	"hansom/value"
)

// What may count in memory, but 0, which is none: one of these bases, and one of these indices.
const (
	baseBX  = 1
	baseBP  = 2
	indexSI = 1
	indexDI = 2
)

// noRegisters is the RM of what has none.
const noRegisters = 8

// manners are the RM of each base, with each index.
var manners = [3][3]int{{noRegisters, 4, 5}, {7, 0, 1}, {6, 2, 3}}

// part is what some of the pieces come to: a register alone, or a value, perhaps in memory, so far from registers.
type part struct {
	alone  bool
	number int // the register's, among 20
	v      api.Value
	memory bool
	base   int
	index  int
	kind   int // the type that PTR tells
	over   int
	short  bool
}

// valued tells whether a part is a value, and neither a register nor in memory.
func (p part) valued() bool { return !p.alone && !p.memory && !p.counts() }

// counts tells whether registers count in it.
func (p part) counts() bool { return p.base != 0 || p.index != 0 }

// counting is the part of a register that counts in memory: no others do.
func counting(s string) part {
	switch s {
	case "BX":
		return part{v: value.Num(0), base: baseBX}
	case "BP":
		return part{v: value.Num(0), base: baseBP}
	case "SI":
		return part{v: value.Num(0), index: indexSI}
	case "DI":
		return part{v: value.Num(0), index: indexDI}
	}
	panic(api.ErrForm)
}

// together is what two parts come to, by a word or a sign between them.
func together(word string, a, b part) part {
	switch word {
	case "+":
		return added(a, b)
	case "-":
		// A register may have something taken away from it, but is not taken away itself.
		need(!a.alone && b.valued())
		return joined(a, b, sure(value.Sub(a.v, b.v)))
	}
	need(a.valued() && b.valued())
	return joined(a, b, sure(value.Do(word, a.v, b.v)))
}

// added is two parts counted on, as also [ ] does it, behind something else.
func added(a, b part) part {
	need(!a.alone && !b.alone)
	return joined(a, b, sure(value.Add(a.v, b.v)))
}

// sure is a value that has to be one.
func sure(v api.Value, ok bool) api.Value {
	need(ok)
	return v
}

// joined is all that is told of two parts, and what their values come to. Where both tell one thing, the left one's counts.
func joined(a, b part, v api.Value) part {
	return part{
		v:      v,
		memory: a.memory || b.memory,
		base:   atMostOne(a.base, b.base),
		index:  atMostOne(a.index, b.index),
		kind:   cmp.Or(a.kind, b.kind),
		over:   cmp.Or(a.over, b.over),
		short:  a.short || b.short,
	}
}

// atMostOne is the one of two that there is.
func atMostOne(a, b int) int {
	need(a == 0 || b == 0)
	return a + b
}

// worded is what a part comes to with a word, or a sign, ahead of it.
func worded(word string, p part) part {
	switch word {
	case "+":
		need(p.valued())
	case "-":
		need(p.valued())
		p.v = sure(value.Sub(value.Num(0), p.v))
	case "NOT":
		need(p.valued())
		p.v = sure(value.Do("XOR", p.v, value.Num(-1)))
	case "OFFSET":
		return wanted(p, api.WantsOff)
	case "SEG":
		need(p.v.From != api.FromNone || !p.v.Known)
		return wanted(p, api.WantsSeg)
	case "SHORT":
		p.short = true
	}
	return p
}

// wanted is the offset, or the paragraph, of where something is: a value, of no type.
func wanted(p part, wants int) part {
	need(!p.alone && !p.counts())
	p.memory = false
	p.kind = api.TypeNone
	p.v.Type = api.TypeNone
	p.v.Wants = wants
	return p
}

// operand is a part as an operand. Ahead of a register nothing else is told of it.
func operand(p part) api.Operand {
	if p.alone {
		return named(p.number)
	}
	o := api.Operand{
		Kind:  api.OpdImm,
		RM:    manners[p.base][p.index],
		V:     p.v,
		Type:  cmp.Or(p.kind, p.v.Type),
		Over:  p.over,
		Short: p.short,
	}
	if p.memory || data(o) {
		o.Kind = api.OpdMem
	}
	return o
}

// named is the operand of a register.
func named(n int) api.Operand {
	switch {
	case n >= firstSegment:
		return api.Operand{Kind: api.OpdSeg, N: n - firstSegment}
	case n >= firstWord:
		return api.Operand{Kind: api.OpdReg, N: n - firstWord}
	}
	return api.Operand{Kind: api.OpdReg8, N: n}
}

// data tells whether an operand is in memory without [ ]: it stands somewhere, and is no place to go to.
func data(o api.Operand) bool {
	return o.V.From != api.FromNone && o.V.Wants == api.WantsAll && o.Type != api.TypeNear && o.Type != api.TypeFar
}
