package expr

import (
	"slices"
	"testing"

	"hansom/api"
	"hansom/value"
)

// modeled is what pieces come to by the model: it parts them at the last of the loosest words that stand between two, instead of going through them from the left on.
type modeled struct {
	register string // alone, or ""
	counts   []string
	v        api.Value
	memory   bool
	kind     int
	over     string
	short    bool
	deep     int
}

// modelOperand is Operand, by the model.
func modelOperand(l []api.Token, t api.Table) (api.Operand, api.Errno) {
	m, ok := modelPart(l, t, false)
	if !ok {
		return api.Operand{}, api.ErrForm
	}
	if m.deep > 40 {
		return api.Operand{}, api.ErrBig
	}
	if m.register != "" {
		return register(slices.Index(all, m.register)), api.OK
	}
	o := api.Operand{Kind: api.OpdImm, RM: modelRM(m.counts), V: m.v, Type: m.v.Type, Short: m.short}
	if m.kind != 0 {
		o.Type = m.kind
	}
	if m.over != "" {
		o.Over = slices.Index([]string{"", "ES", "CS", "SS", "DS"}, m.over)
	}
	places := o.Type == api.TypeNear || o.Type == api.TypeFar
	if m.memory || m.v.From != 0 && m.v.Wants == 0 && !places {
		o.Kind = api.OpdMem
	}
	return o, api.OK
}

func modelRM(counts []string) int {
	s := ""
	for i, r := range counts {
		if i > 0 {
			s += " "
		}
		s += r
	}
	return rms[s]
}

// modelNumber is Number, by the model.
func modelNumber(l []api.Token, t api.Table) (api.Value, api.Errno) {
	o, e := modelOperand(l, t)
	switch {
	case e != api.OK:
		return api.Value{}, e
	case o.Kind == api.OpdImm, o.Kind == api.OpdMem && o.RM == 8 && o.Over == 0:
		return o.V, api.OK
	}
	return api.Value{}, api.ErrForm
}

// modelStrength is how strong a piece is between two; -1: not at all.
func modelStrength(t api.Token) int {
	if t.Kind != api.TokName && t.Kind != api.TokSign {
		return -1
	}
	for i, same := range strengths {
		for _, s := range same {
			isSign := len(s) == 1
			if s == t.S && isSign == (t.Kind == api.TokSign) {
				return i
			}
		}
	}
	return -1
}

// ends tells whether one may end with a piece: a word behind it stands between two then.
func ends(t api.Token) bool {
	switch t.Kind {
	case api.TokNum, api.TokText:
		return true
	case api.TokSign:
		return t.S == ")" || t.S == "]"
	case api.TokName:
		return !slices.Contains([]string{"OFFSET", "SEG", "NOT", "SHORT", "BYTE", "WORD", "DWORD", "NEAR", "FAR", "PTR"}, t.S) && modelStrength(t) < 0
	}
	return false
}

// loosestAt is where the last of the loosest words between two stands, in no brackets; -1: none; false: brackets are wrong.
func loosestAt(l []api.Token) (int, bool) {
	at, strength := -1, 99
	var open []string
	for i, t := range l {
		if t.Kind == api.TokSign {
			switch t.S {
			case "(", "[":
				open = append(open, t.S)
			case ")", "]":
				if len(open) == 0 || (open[len(open)-1] == "(") != (t.S == ")") {
					return 0, false
				}
				open = open[:len(open)-1]
			}
		}
		s := modelStrength(t)
		if len(open) == 0 && s >= 0 && i > 0 && ends(l[i-1]) && s <= strength {
			at, strength = i, s
		}
	}
	return at, len(open) == 0
}

// modelPart is what pieces come to; within: in [ ]; false: nothing.
func modelPart(l []api.Token, t api.Table, within bool) (modeled, bool) {
	at, ok := loosestAt(l)
	if !ok || len(l) == 0 {
		return modeled{}, false
	}
	if at < 0 {
		return modelAhead(l, t, within)
	}
	a, aok := modelPart(l[:at], t, within)
	b, bok := modelPart(l[at+1:], t, within)
	if !aok || !bok || a.register != "" || b.register != "" {
		return modeled{}, false
	}
	plain := !b.memory && len(b.counts) == 0
	var v api.Value
	switch word := l[at].S; word {
	case "+":
		v, ok = value.Add(a.v, b.v)
	case "-":
		v, ok = value.Sub(a.v, b.v)
		ok = ok && plain
	default:
		v, ok = value.Do(word, a.v, b.v)
		ok = ok && plain && !a.memory && len(a.counts) == 0
	}
	return modelJoin(a, b, v, ok)
}

func modelJoin(a, b modeled, v api.Value, ok bool) (modeled, bool) {
	a.v = v
	a.counts = append(slices.Clone(a.counts), b.counts...)
	if _, may := rms[modelKey(a.counts)]; !may || !ok {
		return modeled{}, false
	}
	a.memory = a.memory || b.memory
	a.short = a.short || b.short
	a.deep = max(a.deep, b.deep)
	if a.kind == 0 {
		a.kind = b.kind
	}
	if a.over == "" {
		a.over = b.over
	}
	return a, true
}

func modelKey(counts []string) string {
	switch len(counts) {
	case 0:
		return ""
	case 1:
		return counts[0]
	case 2:
		return counts[0] + " " + counts[1]
	}
	return "more"
}

// modelAhead is one, and what stands ahead of it.
func modelAhead(l []api.Token, t api.Table, within bool) (modeled, bool) {
	many := 1
	first := l[0]
	switch {
	case first.Kind == api.TokSign && (first.S == "+" || first.S == "-"):
	case first.Kind == api.TokName && slices.Contains([]string{"OFFSET", "SEG", "NOT", "SHORT"}, first.S):
	case first.Kind == api.TokName && slices.Contains([]string{"BYTE", "WORD", "DWORD", "NEAR", "FAR"}, first.S):
		if len(l) < 2 || l[1] != name("PTR") {
			return modeled{}, false
		}
		many = 2
	case len(l) > 1 && l[1] == sign(":") && first.Kind == api.TokName && slices.Contains(all[16:], first.S):
		many = 2
	default:
		return modelOne(l, t, within)
	}
	if len(l) == many {
		return modeled{}, false
	}
	m, ok := modelAhead(l[many:], t, within)
	if !ok {
		return modeled{}, false
	}
	m.deep++
	return modelWord(first.S, m)
}

func modelWord(word string, m modeled) (modeled, bool) {
	ok := true
	number := m.register == "" && !m.memory && len(m.counts) == 0
	switch word {
	case "+":
		ok = number
	case "-":
		m.v, ok = value.Sub(value.Num(0), m.v)
		ok = ok && number
	case "NOT":
		m.v, ok = value.Do("XOR", value.Num(-1), m.v)
		ok = ok && number
	case "OFFSET", "SEG":
		ok = m.register == "" && len(m.counts) == 0 && (word == "OFFSET" || m.v.From != 0 || !m.v.Known)
		m.v.Wants, m.v.Type, m.kind, m.memory = api.WantsOff, 0, 0, false
		if word == "SEG" {
			m.v.Wants = api.WantsSeg
		}
	case "SHORT":
		m.short = true
	case "ES", "CS", "SS", "DS":
		m.over = word
	default:
		m.kind = map[string]int{"BYTE": 1, "WORD": 2, "DWORD": 4, "NEAR": 101, "FAR": 102}[word]
	}
	return m, ok
}

// modelOne is one, with [ ] behind it.
func modelOne(l []api.Token, t api.Table, within bool) (modeled, bool) {
	last := len(l) - 1
	if l[last] == sign("]") {
		open := opens(l)
		if open < 0 {
			return modeled{}, false
		}
		m, ok := modelPart(l[open+1:last], t, true)
		m.memory = true
		m.deep++
		if open == 0 || !ok {
			return m, ok
		}
		a, ok := modelOne(l[:open], t, within)
		if !ok || a.register != "" {
			return modeled{}, false
		}
		v, ok := value.Add(a.v, m.v)
		return modelJoin(a, m, v, ok)
	}
	if l[0] == sign("(") && l[last] == sign(")") {
		m, ok := modelPart(l[1:last], t, within)
		m.deep++
		return m, ok
	}
	if last > 0 {
		return modeled{}, false
	}
	return modelPiece(l[0], t, within)
}

// opens is where the [ of the last ] stands; -1: nowhere.
func opens(l []api.Token) int {
	deep := 0
	for i, t := range slices.Backward(l) {
		switch t {
		case sign("]"), sign(")"):
			deep++
		case sign("["), sign("("):
			deep--
		}
		if deep == 0 {
			return i
		}
	}
	return -1
}

func modelPiece(p api.Token, t api.Table, within bool) (modeled, bool) {
	switch p.Kind {
	case api.TokNum:
		return modeled{v: value.Num(int(p.N))}, true
	case api.TokText:
		switch b := []byte(p.S); len(b) {
		case 1:
			return modeled{v: value.Num(int(b[0]))}, true
		case 2:
			return modeled{v: value.Num(int(b[0])*256 + int(b[1]))}, true
		}
		return modeled{}, false
	case api.TokName:
		return modelName(p.S, t, within)
	}
	return modeled{}, false
}

func modelName(s string, t api.Table, within bool) (modeled, bool) {
	if !ends(name(s)) {
		return modeled{}, false
	}
	if slices.Contains(all, s) {
		if !within {
			return modeled{register: s}, true
		}
		return modeled{counts: []string{s}, v: value.Num(0)}, slices.Contains(counted, s)
	}
	if s == "$" {
		return modeled{v: t.Here}, true
	}
	for i, n := range t.Names {
		if n == s && i < len(t.Values) {
			return modeled{v: t.Values[i]}, true
		}
	}
	return modeled{}, true
}

// beside holds what pieces come to against the model; whether they are an operand is answered.
func beside(t *testing.T, l []api.Token, table api.Table) bool {
	t.Helper()
	want, wrong := modelOperand(l, table)
	got, e := Operand(l, table)
	if got != want || e != wrong {
		t.Errorf("%s: %+v, %d, not %+v, %d", show(l), got, e, want, wrong)
	}
	n, wrong := modelNumber(l, table)
	number, e := Number(l, table)
	if number != n || e != wrong {
		t.Errorf("%s: number %+v, %d, not %+v, %d", show(l), number, e, n, wrong)
	}
	return e == api.OK || got.Kind != api.OpdNone
}

// alphabet is pieces of all kinds.
func alphabet() []api.Token {
	l := []api.Token{num(0), num(2), num(3), text("A"), text("AB"), text("ABC"), name("XW"), name("LN"), name("OFF"), name("NEVER"), name("$"), name("AX"), name("BX"), name("BP"), name("SI"), name("ES"), name("AL"), name("OFFSET"), name("SEG"), name("NOT"), name("SHORT"), name("BYTE"), name("FAR"), name("PTR"), {Kind: api.TokRatio, N: 1, D: 2}, {}}
	for _, s := range []string{"+", "-", "*", "(", ")", "[", "]", ":", ","} {
		l = append(l, sign(s))
	}
	for _, s := range []string{"OR", "AND", "EQ", "MOD"} {
		l = append(l, name(s))
	}
	return l
}

// Each list of up to three pieces, and each of five of the shorter alphabet.
func TestEachShortList(t *testing.T) {
	letters := alphabet()
	many := eachList(t, nil, letters, 3)
	few := []api.Token{num(2), name("XW"), name("BX"), name("SI"), name("ES"), name("NOT"), name("AND"), sign("+"), sign("-"), sign("("), sign(")"), sign("["), sign("]"), sign(":")}
	many += eachList(t, nil, few, 5)
	if many < 1000 {
		t.Errorf("of all of these only %d are operands", many)
	}
}

// eachList goes through each list of pieces that begins so, and has so many more at most; how many of them are operands is answered.
func eachList(t *testing.T, l, letters []api.Token, more int) int {
	many := 0
	if beside(t, l, told()) {
		many++
	}
	if more == 0 {
		return many
	}
	for _, one := range letters {
		many += eachList(t, append(slices.Clone(l), one), letters, more-1)
	}
	return many
}

// drawn draws pieces that may be an operand, so deep at most.
func (d *drawer) drawn(deep int, within bool) []api.Token {
	if deep == 0 {
		return d.single(within)
	}
	switch d.below(10) {
	case 0, 1:
		return d.between(deep, within)
	case 2, 3:
		l := d.drawn(deep-1, within)
		l = append(l, sign([]string{"+", "-", "+"}[d.below(3)]))
		return append(l, d.drawn(deep-1, within)...)
	case 4:
		return slices.Concat([]api.Token{sign("(")}, d.drawn(deep-1, within), []api.Token{sign(")")})
	case 5:
		return slices.Concat([]api.Token{sign("[")}, d.drawn(deep-1, true), []api.Token{sign("]")})
	case 6:
		return slices.Concat(d.drawn(deep-1, within), []api.Token{sign("[")}, d.drawn(deep-1, true), []api.Token{sign("]")})
	case 7, 8:
		return append(d.word(), d.drawn(deep-1, within)...)
	}
	return d.single(within)
}

func (d *drawer) between(deep int, within bool) []api.Token {
	word := betweens()[d.below(len(betweens()))]
	joins := name(word)
	if len(word) == 1 {
		joins = sign(word)
	}
	return slices.Concat(d.drawn(deep-1, within), []api.Token{joins}, d.drawn(deep-1, within))
}

func (d *drawer) word() []api.Token {
	switch n := d.below(16); n {
	case 0:
		return []api.Token{name("OFFSET")}
	case 1:
		return []api.Token{name("SEG")}
	case 2:
		return []api.Token{name("NOT")}
	case 3:
		return []api.Token{name("SHORT")}
	case 4, 5, 6, 7, 8:
		return []api.Token{name([]string{"BYTE", "WORD", "DWORD", "NEAR", "FAR"}[n-4]), name("PTR")}
	case 9, 10, 11, 12:
		return []api.Token{name(all[16+n-9]), sign(":")}
	case 13:
		return []api.Token{sign("+")}
	}
	return []api.Token{sign("-")}
}

func (d *drawer) single(within bool) []api.Token {
	if within && d.below(3) == 0 {
		return []api.Token{name(counted[d.below(4)])}
	}
	switch d.below(12) {
	case 0, 1, 2, 3:
		return []api.Token{num(uint64(d.below(40)))}
	case 4:
		return []api.Token{num(uint64(d.below(1<<31)) << d.below(33))}
	case 5, 6, 7, 8:
		return []api.Token{name(told().Names[d.below(len(told().Names))])}
	case 9:
		return []api.Token{text("Zz"[:1+d.below(2)])}
	case 10:
		return []api.Token{name("$")}
	}
	return []api.Token{name(append([]string{"NEVER"}, all...)[d.below(21)])}
}

// Pieces that are drawn, and those with one that is another, too much, or gone.
func TestBesideModel(t *testing.T) {
	d := drawer(30)
	letters := alphabet()
	many := 0
	for range 60000 {
		l := d.drawn(1+d.below(5), false)
		if beside(t, l, told()) {
			many++
		}
		at := d.below(len(l))
		odd := slices.Clone(l)
		switch d.below(3) {
		case 0:
			odd[at] = letters[d.below(len(letters))]
		case 1:
			odd = slices.Delete(odd, at, at+1)
		case 2:
			odd = slices.Insert(odd, at, letters[d.below(len(letters))])
		}
		beside(t, odd, told())
	}
	if many < 15000 {
		t.Errorf("only %d of them are operands", many)
	}
}

// Pieces that go down near the limit.
func TestDeepBesideModel(t *testing.T) {
	d := drawer(31)
	seen := map[api.Errno]int{}
	for range 4000 {
		l := d.single(false)
		for range 36 + d.below(8) {
			switch d.below(6) {
			case 0, 1, 2:
				l = slices.Concat([]api.Token{sign("(")}, l, []api.Token{sign(")")})
			case 3:
				l = slices.Concat([]api.Token{name([]string{"SHORT", "SHORT", "NOT"}[d.below(3)])}, l)
			case 4:
				l = slices.Concat([]api.Token{sign("("), num(1), sign("+")}, l, []api.Token{sign(")")})
			case 5:
				l = slices.Concat([]api.Token{name("WORD"), name("PTR")}, l)
			}
		}
		if d.below(2) == 0 {
			l = append(l, sign("+"), sign("("), num(1), sign(")"))
		}
		beside(t, l, told())
		_, e := Operand(l, told())
		seen[e]++
	}
	if seen[api.OK] < 200 || seen[api.ErrBig] < 200 || seen[api.ErrForm] < 200 {
		t.Errorf("of these many are alike: %v", seen)
	}
}
