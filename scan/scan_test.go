package scan

import (
	"bytes"
	"encoding/hex"
	"slices"
	"strconv"
	"strings"
	"sync"
	"testing"

	"hansom/api"
	"hansom/code"
	"hansom/inst"
)

// forms is what stands in each instruction behind its first byte, by first bytes (from one to another) and middles of the second byte
// (where not each will do): m a second byte, n one that tells something in memory; b a byte, t the ten, s a byte whose sign is spread,
// w a word, p an offset and a segment; r what repeats, f as long as something is found. What is not listed is no instruction.
const forms = `
00-03 m; 04 b; 05 w; 06-07 .; 08-0B m; 0C b; 0D w; 0E .; 10-13 m; 14 b; 15 w; 16-17 .; 18-1B m; 1C b; 1D w; 1E-1F .
20-23 m; 24 b; 25 w; 27 .; 28-2B m; 2C b; 2D w; 2F .; 30-33 m; 34 b; 35 w; 37 .; 38-3B m; 3C b; 3D w; 3F .
40-5F .; 70-7F s; 80 mb; 81 mw; 83/02357 ms; 84-8B m; 8C/0123 m; 8D n; 8E/023 m; 8F/0 m; 90-99 .; 9A p; 9B-9F .
A0-A3 w; A4-A5 r; A6-A7 rf; A8 b; A9 w; AA-AD r; AE-AF rf; B0-B7 b; B8-BF w; C2 w; C3 .; C4-C5 n; C6/0 mb; C7/0 mw
CA w; CB-CC .; CD b; CE-CF .; D0-D3/0123457 m; D4-D5 t; D7 .; D8-DF m; E0-E3 s; E4-E7 b; E8-E9 w; EA p; EB s; EC-EF .
F4-F5 .; F6/0 mb; F6/234567 m; F7/0 mw; F7/234567 m; F8-FD .; FE/01 m; FF/01246 m; FF/35 n
`

// prefixes is all of them: the one that locks, those that repeat, those of segments.
const prefixes = "\xf0\xf2\xf3\x26\x2e\x36\x3e"

// kind is a prefix's kind: it locks, repeats, or is of a segment.
func kind(p byte) string {
	at := strings.IndexByte(prefixes, p)
	return "lrrssss"[at : at+1]
}

// model reads instructions by the table of forms: the chapter's order of asking, reckoned by how many bytes there must be.
type model struct {
	forms  [256][8]string
	second [256]bool
}

// newModel reads the table.
func newModel(t *testing.T) *model {
	number := func(s string) int {
		n, err := strconv.ParseUint(s, 16, 8)
		if err != nil {
			t.Fatal(err)
		}
		return int(n)
	}
	m := &model{}
	for _, row := range strings.Split(strings.ReplaceAll(strings.TrimSpace(forms), "\n", ";"), ";") {
		head, form, _ := strings.Cut(strings.TrimSpace(row), " ")
		ops, middles, some := strings.Cut(head, "/")
		if !some {
			middles = "01234567"
		}
		from, to, many := strings.Cut(ops, "-")
		if !many {
			to = from
		}
		for op := number(from); op <= number(to); op++ {
			for _, middle := range middles {
				m.forms[op][middle-'0'] = form
			}
			m.second[op] = m.second[op] || strings.ContainsAny(form, "mn")
		}
	}
	return m
}

// none tells whether there is no such first byte.
func (m *model) none(op byte) bool { return m.forms[op] == [8]string{} }

// distances is how many bytes tell how far from there.
func distances(mod, rm int) int {
	if mod == 0 && rm == 6 {
		return 2
	}
	return []int{0, 1, 2, 0}[mod]
}

// behind is how many bytes a form has behind the others.
func behind(form string) int {
	switch {
	case strings.ContainsAny(form, "bts"):
		return 1
	case strings.Contains(form, "w"):
		return 2
	case strings.Contains(form, "p"):
		return 4
	}
	return 0
}

// number is bytes, the lowest first; a single one may be spread.
func number(b []byte, spread bool) uint16 {
	switch {
	case len(b) == 0:
		return 0
	case len(b) == 1 && spread:
		return uint16(int8(b[0]))
	case len(b) == 1:
		return uint16(b[0])
	}
	return uint16(b[0]) + 256*uint16(b[1])
}

// get is what Get is to answer.
func (m *model) get(b []byte) (api.Inst, int, api.Errno) {
	i, at, e := ahead(b)
	if e != api.OK {
		return api.Inst{}, 0, e
	}
	i.Op = b[at]
	if m.none(i.Op) {
		return api.Inst{}, 0, api.ErrForm
	}
	at++
	if m.second[i.Op] {
		if at == len(b) {
			return api.Inst{}, 0, api.ErrShort
		}
		second := int(b[at])
		i.Mod, i.Reg, i.RM = second/64, second/8%8, second%8
		at++
		far := distances(i.Mod, i.RM)
		if at+far > len(b) {
			return api.Inst{}, 0, api.ErrShort
		}
		i.Disp = number(b[at:at+far], true)
		at += far
	}
	form := m.forms[i.Op][i.Reg]
	if form == "" {
		return api.Inst{}, 0, api.ErrForm
	}
	many := behind(form)
	if at+many > len(b) {
		return api.Inst{}, 0, api.ErrShort
	}
	i.Imm = number(b[at:at+min(many, 2)], strings.Contains(form, "s"))
	i.Sel = number(b[at+min(many, 2):at+many], false)
	if !may(i, form) {
		return api.Inst{}, 0, api.ErrForm
	}
	return i, at + many, api.OK
}

// ahead is the prefixes that bytes begin with, and where the first byte stands behind them.
func ahead(b []byte) (i api.Inst, at int, e api.Errno) {
	kinds := ""
	for ; at < len(b); at++ {
		which := strings.IndexByte(prefixes, b[at])
		if which < 0 {
			return i, at, api.OK
		}
		if strings.Contains(kinds, kind(b[at])) {
			return i, at, api.ErrForm
		}
		kinds += kind(b[at])
		switch kind(b[at]) {
		case "l":
			i.Lock = true
		case "r":
			i.Rep = which
		case "s":
			i.Seg = which - 2
		}
	}
	return i, at, api.ErrShort
}

// may tells whether what was read of that form may be; what its bytes can't tell otherwise than it may be is not asked.
func may(i api.Inst, form string) bool {
	switch {
	case strings.Contains(form, "n") && i.Mod == 3:
		return false
	case strings.Contains(form, "t") && i.Imm != 10:
		return false
	case i.Rep == 1:
		return strings.Contains(form, "f")
	case i.Rep == 2:
		return strings.Contains(form, "r")
	}
	return true
}

// check holds Get against the model. It is no helper of t's: of millions of calls, marking each as one would take the most time.
func (m *model) check(t *testing.T, b []byte) (api.Inst, int, api.Errno) {
	i, n, e := Get(b)
	if wi, wn, we := m.get(b); i != wi || n != wn || e != we {
		t.Errorf("Get(% x) is %+v, %d, %d; asked %+v, %d, %d", b, i, n, e, wi, wn, we)
	}
	return i, n, e
}

// tails is what may stand behind an instruction.
var tails = []string{"", "\x00", "\x90", "\xf0", "\x0f", "\xff\xff", "\x26\x26\x26\x26", "\x12\x34\x56\x78\x9a\xbc\xde\xf0"}

// whole checks bytes that have an instruction's length, with others behind them, and each shorter beginning of them: something is missing there.
func (m *model) whole(t *testing.T, b []byte) {
	t.Helper()
	i, n, e := m.check(t, b)
	if e == api.OK {
		if n != len(b) || !inst.May(i) || inst.Len(i) != n {
			t.Errorf("Get(% x) is %+v, %d, and its Len is %d", b, i, n, inst.Len(i))
		}
	} else if e != api.ErrForm {
		t.Errorf("Get(% x) tells %d", b, e)
	}
	for _, tail := range tails {
		if ti, tn, te := Get(append(slices.Clone(b), tail...)); ti != i || tn != n || te != e {
			t.Errorf("Get(% x) with % x behind is %+v, %d, %d; alone %+v, %d, %d", b, tail, ti, tn, te, i, n, e)
		}
	}
	for many := range b {
		// What is missing stands behind the end of what is handed in: it is not to be read there.
		if i, n, e := Get(b[:many]); i != (api.Inst{}) || n != 0 || e != api.ErrShort {
			t.Errorf("Get(% x) is %+v, %d, %d: something is missing", b[:many], i, n, e)
		}
	}
}

// each calls a function with the beginning of each instruction that the table has (its first byte, and its second one), and its form and how far from there.
func (m *model) each(mods, rms []int, f func(start []byte, form string, far int)) {
	for op := range 256 {
		if !m.second[op] {
			if !m.none(byte(op)) {
				f([]byte{byte(op)}, m.forms[op][0], 0)
			}
			continue
		}
		for reg, form := range m.forms[op] {
			if form == "" {
				continue
			}
			for _, mod := range mods {
				for _, rm := range rms {
					f([]byte{byte(op), byte(64*mod + 8*reg + rm)}, form, distances(mod, rm))
				}
			}
		}
	}
}

// samples is some bytes of that many, with the edges of a byte's and a word's sign.
func samples(many int) []string {
	return [][]string{
		{""},
		{"\x00", "\x01", "\x09", "\x0a", "\x0b", "\x7f", "\x80", "\xf6", "\xff"},
		{"\x00\x00", "\x34\x12", "\x7f\x00", "\x80\x00", "\xff\x00", "\x00\x01", "\xff\x7f", "\x00\x80", "\x80\xff", "\xff\xff"},
		nil,
		{"\x00\x00\x00\x00", "\x34\x12\x78\x56", "\x00\x00\x00\x01", "\x00\x00\x01\x00", "\x00\x01\x00\x00", "\xff\x00\x00\xff", "\xff\xff\xff\xff"},
	}[many]
}

// TestEach has each first byte and middle, with all parts of the second byte, how far from there, and what stands behind.
func TestEach(t *testing.T) {
	m := newModel(t)
	all := []int{0, 1, 2, 3, 4, 5, 6, 7}
	m.each(all[:4], all, func(start []byte, form string, far int) {
		for _, disp := range samples(far) {
			for _, imm := range samples(behind(form)) {
				m.whole(t, slices.Concat(start, []byte(disp), []byte(imm)))
			}
		}
	})
}

// orders is all ways to put prefixes, of each kind one at most, in each order.
func orders() []string {
	kinds := []string{"\xf0", "\xf2\xf3", "\x26\x2e\x36\x3e"}
	all := []string{}
	var add func(put string, left []string)
	add = func(put string, left []string) {
		all = append(all, put)
		for at, kind := range left {
			for p := range len(kind) {
				add(put+kind[p:p+1], slices.Delete(slices.Clone(left), at, at+1))
			}
		}
	}
	add("", kinds)
	return all
}

// TestPrefixes has each first byte and middle, with each prefix, and some and all of them together in each order.
func TestPrefixes(t *testing.T) {
	m := newModel(t)
	all := orders()
	if many := 1 + 7 + 2*(1*2+1*4+2*4) + 6*(1*2*4); len(all) != many {
		t.Fatalf("there are %d orders; asked %d", len(all), many)
	}
	m.each([]int{0, 1, 3}, []int{2, 6}, func(start []byte, form string, far int) {
		imm := strings.Repeat("\x0a", behind(form))
		for _, order := range all {
			if len(order) > api.MostPrefixes {
				t.Errorf("% x are more prefixes than there may be", order)
			}
			m.whole(t, slices.Concat([]byte(order), start, []byte("\x85\xff")[:far], []byte(imm)))
		}
	})
}

// TestSecondPrefix has a second prefix of each kind, alike or not, behind each order of others: it is told there, whatever stands behind.
func TestSecondPrefix(t *testing.T) {
	for _, order := range orders() {
		for _, p := range []byte(prefixes) {
			twice := slices.ContainsFunc([]byte(order), func(q byte) bool { return kind(q) == kind(p) })
			want := api.ErrShort
			if twice {
				want = api.ErrForm
			}
			b := append([]byte(order), p)
			if i, n, e := Get(b); i != (api.Inst{}) || n != 0 || e != want {
				t.Errorf("Get(% x) is %+v, %d, %d; asked %d", b, i, n, e, want)
			}
			for _, tail := range append(tails, "\xa6", "\xa4", "\xb8", "\xb8\x34\x12") {
				if i, n, e := Get(append(slices.Clone(b), tail...)); twice && (i != (api.Inst{}) || n != 0 || e != api.ErrForm) {
					t.Errorf("Get(% x% x) is %+v, %d, %d: a second prefix of a kind", b, tail, i, n, e)
				}
			}
		}
	}
}

// TestNoSuch has the first bytes and the middles that there are not, and where that is told.
func TestNoSuch(t *testing.T) {
	m := newModel(t)
	wrong := func(b []byte, want api.Errno) {
		t.Helper()
		if i, n, e := Get(b); i != (api.Inst{}) || n != 0 || e != want {
			t.Errorf("Get(% x) is %+v, %d, %d; asked %d", b, i, n, e, want)
		}
	}
	first, middles := 0, 0
	for op := range 256 {
		if m.none(byte(op)) {
			if strings.IndexByte(prefixes, byte(op)) >= 0 {
				continue
			}
			first++
			for _, order := range orders() {
				for _, tail := range tails {
					wrong(slices.Concat([]byte(order), []byte{byte(op)}, []byte(tail)), api.ErrForm)
				}
			}
			continue
		}
		for reg, form := range m.forms[op] {
			if form != "" {
				continue
			}
			middles++
			for at := range 32 {
				mod, rm := at/8, at%8
				b := append([]byte{byte(op), byte(64*mod + 8*reg + rm)}, "\x12\x34"[:distances(mod, rm)]...)
				for many := range len(b) {
					wrong(b[:many], api.ErrShort)
				}
				// Nothing behind it is asked for.
				wrong(b, api.ErrForm)
				for _, tail := range tails {
					wrong(append(slices.Clone(b), tail...), api.ErrForm)
				}
			}
		}
	}
	// 0F, 60 to 6F, 82, C0 C1 C8 C9, D6, F1; 83, 8C, 8E, 8F, C6 and C7, D0 to D3, F6 and F7, FE, FF.
	if first != 24 || middles != 3+4+5+7+2*7+4+2+6+1 {
		t.Errorf("%d first bytes and %d middles are none", first, middles)
	}
}

// TestAnyTwo has all bytes of none to two; TestAnyThree those of three.
func TestAnyTwo(t *testing.T) {
	m := newModel(t)
	m.check(t, nil)
	m.check(t, []byte{})
	for first := range 256 {
		m.check(t, []byte{byte(first)})
		for second := range 256 {
			m.check(t, []byte{byte(first), byte(second)})
		}
	}
}

func TestAnyThree(t *testing.T) {
	m := newModel(t)
	var all sync.WaitGroup
	for first := range 256 {
		all.Go(func() {
			for rest := range 1 << 16 {
				m.check(t, []byte{byte(first), byte(rest >> 8), byte(rest)})
			}
		})
	}
	all.Wait()
}

// TestBytes has bytes that are written out, one instruction or more of each kind, with others behind them.
func TestBytes(t *testing.T) {
	cases := []struct {
		text string
		n    int
		want api.Inst
	}{
		{"b8341290", 3, api.Inst{Op: 0xb8, Imm: 0x1234}},
		{"90", 1, api.Inst{Op: 0x90}},
		{"0000", 2, api.Inst{}},
		{"89caff", 2, api.Inst{Op: 0x89, Mod: 3, Reg: 1, RM: 2}},
		{"8a063412", 4, api.Inst{Op: 0x8a, RM: 6, Disp: 0x1234}},
		{"8a260080", 4, api.Inst{Op: 0x8a, Reg: 4, RM: 6, Disp: 0x8000}},
		{"8a2780", 2, api.Inst{Op: 0x8a, Reg: 4, RM: 7}},
		{"8a6600", 3, api.Inst{Op: 0x8a, Mod: 1, Reg: 4, RM: 6}},
		{"8a677f00", 3, api.Inst{Op: 0x8a, Mod: 1, Reg: 4, RM: 7, Disp: 0x7f}},
		{"8a678000", 3, api.Inst{Op: 0x8a, Mod: 1, Reg: 4, RM: 7, Disp: 0xff80}},
		{"8aa78000", 4, api.Inst{Op: 0x8a, Mod: 2, Reg: 4, RM: 7, Disp: 0x80}},
		{"8ed8", 2, api.Inst{Op: 0x8e, Mod: 3, Reg: 3}},
		{"8d72ff", 3, api.Inst{Op: 0x8d, Mod: 1, Reg: 6, RM: 2, Disp: 0xffff}},
		{"c535", 2, api.Inst{Op: 0xc5, Reg: 6, RM: 5}},
		{"04ff", 2, api.Inst{Op: 0x04, Imm: 0xff}},
		{"3d80ff", 3, api.Inst{Op: 0x3d, Imm: 0xff80}},
		{"807c05fe", 4, api.Inst{Op: 0x80, Mod: 1, Reg: 7, RM: 4, Disp: 5, Imm: 0xfe}},
		{"81ab02010403", 6, api.Inst{Op: 0x81, Mod: 2, Reg: 5, RM: 3, Disp: 0x0102, Imm: 0x0304}},
		{"83ecfe", 3, api.Inst{Op: 0x83, Mod: 3, Reg: 5, RM: 4, Imm: 0xfffe}},
		{"83ec7f", 3, api.Inst{Op: 0x83, Mod: 3, Reg: 5, RM: 4, Imm: 0x7f}},
		{"c70602010403", 6, api.Inst{Op: 0xc7, RM: 6, Disp: 0x0102, Imm: 0x0304}},
		{"f6c180", 3, api.Inst{Op: 0xf6, Mod: 3, RM: 1, Imm: 0x80}},
		{"f6d980", 2, api.Inst{Op: 0xf6, Mod: 3, Reg: 3, RM: 1}},
		{"ff1e0080", 4, api.Inst{Op: 0xff, Reg: 3, RM: 6, Disp: 0x8000}},
		{"dfff", 2, api.Inst{Op: 0xdf, Mod: 3, Reg: 7, RM: 7}},
		{"74fe", 2, api.Inst{Op: 0x74, Imm: 0xfffe}},
		{"eb7f", 2, api.Inst{Op: 0xeb, Imm: 0x7f}},
		{"e980ff", 3, api.Inst{Op: 0xe9, Imm: 0xff80}},
		{"a30201", 3, api.Inst{Op: 0xa3, Imm: 0x0102}},
		{"c2ff00", 3, api.Inst{Op: 0xc2, Imm: 0xff}},
		{"cc21", 1, api.Inst{Op: 0xcc}},
		{"cd8021", 2, api.Inst{Op: 0xcd, Imm: 0x80}},
		{"d40a", 2, api.Inst{Op: 0xd4, Imm: 10}},
		{"9a34127856", 5, api.Inst{Op: 0x9a, Imm: 0x1234, Sel: 0x5678}},
		{"ea0000ff00", 5, api.Inst{Op: 0xea, Sel: 0xff}},
		{"f2a6", 2, api.Inst{Op: 0xa6, Rep: 1}},
		{"f3a6", 2, api.Inst{Op: 0xa6, Rep: 2}},
		{"26ac", 2, api.Inst{Op: 0xac, Seg: 1}},
		{"2eac", 2, api.Inst{Op: 0xac, Seg: 2}},
		{"36ac", 2, api.Inst{Op: 0xac, Seg: 3}},
		{"3eac", 2, api.Inst{Op: 0xac, Seg: 4}},
		{"f0f23ea7", 4, api.Inst{Op: 0xa7, Lock: true, Rep: 1, Seg: 4}},
		{"3ef2f0a7", 4, api.Inst{Op: 0xa7, Lock: true, Rep: 1, Seg: 4}},
		{"26f3f0a5", 4, api.Inst{Op: 0xa5, Lock: true, Rep: 2, Seg: 1}},
		{"2ef08186020104030000", 8, api.Inst{Op: 0x81, Lock: true, Seg: 2, Mod: 2, RM: 6, Disp: 0x0102, Imm: 0x0304}},
	}
	for _, c := range cases {
		if i, n, e := Get(raw(t, c.text)); i != c.want || n != c.n || e != api.OK {
			t.Errorf("Get(%s) is %+v, %d, %d; asked %+v, %d", c.text, i, n, e, c.want, c.n)
		}
	}
}

// raw is the bytes of a text of hexadecimal digits.
func raw(t *testing.T, text string) []byte {
	t.Helper()
	b, err := hex.DecodeString(text)
	if err != nil {
		t.Fatal(err)
	}
	return b
}

// wrong is bytes that begin with no instruction, one or more of each cause.
const (
	short = "f0 f2 f32e 3ef2f0 00 88 8a06 8a0634 8a67 8a87 8aa780 04 b8 b834 80c0 8106 810602 81060201 8106020103 83ec c7c0 c7c001 " +
		"74 eb e9 e980 9a 9a34 9a3412 9a341278 cd d4 d5 f6c1 f6 ff1e ff1e00 f3b834 f004 " +
		"8e4e fe78 fe3e00 83 8cbf01 d2b6 c60e f28b f2d4 c54f"
	bad = "f0f0 f2f2 f2f3 f3f2 2626 263e 3e2e f026f0 f2f0f3 36f0f236 " +
		"0f 60 6f 82 c0 c1 c8 c9 d6 f1 f00f 2e82 " +
		"83cc 83cc01 8ce020 8ec8 8ee0 8fc8 c6c8 c7f80102 d0f0 d330 f6c8 f70e0102 fed0 ff3e0102 fff8 ff38 8e4e01 d2b60102 " +
		"8dc0 8dff c4c0 c5d9 ffd8 ffe8 d400 d40b d509 d4ff " +
		"f390 f290 f2a4 f2a5 f2aa f2ac f3b83412 f2c3 f32e8b07 f3f0d40a f38dc0"
)

func TestWrong(t *testing.T) {
	for text, want := range map[string]api.Errno{short: api.ErrShort, bad: api.ErrForm} {
		for _, c := range strings.Fields(text) {
			if i, n, e := Get(raw(t, c)); i != (api.Inst{}) || n != 0 || e != want {
				t.Errorf("Get(%s) is %+v, %d, %d; asked %d", c, i, n, e, want)
			}
		}
	}
}

// TestGetOfPut has the bytes that layer 6 makes of instructions: the instruction that Get tells of them is that which they were made of.
func TestGetOfPut(t *testing.T) {
	m := newModel(t)
	words := []uint16{0, 1, 10, 0x7f, 0x80, 0xff, 0x100, 0x1234, 0xff7f, 0xff80, 0xffff}
	m.each([]int{0, 1, 2, 3}, []int{0, 6}, func(start []byte, form string, far int) {
		i := api.Inst{Op: start[0]}
		if len(start) > 1 {
			i.Mod, i.Reg, i.RM = int(start[1]>>6), int(start[1]>>3&7), int(start[1]&7)
		}
		for _, i.Disp = range words {
			for at, imm := range words {
				i.Imm, i.Lock, i.Rep, i.Seg = imm, at%2 == 1, at%3, at%5
				for _, i.Sel = range []uint16{0, 1, 0xff00} {
					b, e := code.Put(i)
					if e != api.OK {
						continue
					}
					if back, n, e := Get(b); back != i || n != len(b) || e != api.OK {
						t.Errorf("Get(% x) is %+v, %d, %d; it was made of %+v", b, back, n, e, i)
					}
				}
			}
		}
	})
}

// some is instructions, one behind the other, and each one's bytes.
func some() ([]api.Inst, []string) {
	return []api.Inst{
		{Op: 0xb8, Imm: 7},
		{Op: 0xe7, Imm: 5},
		{Op: 0xa4, Rep: 2, Seg: 2},
		{Op: 0x9a, Imm: 0x0102, Sel: 0x0304},
		{Op: 0x90},
		{Op: 0x90},
		{Op: 0x81, Lock: true, Mod: 2, RM: 6, Disp: 0x0102, Imm: 0x0304},
		{Op: 0xf4},
	}, []string{"b80700", "e705", "2ef3a4", "9a02010403", "90", "90", "f0818602010403", "f4"}
}

// checkAll holds All against what is asked.
func checkAll(t *testing.T, b []byte, want []api.Inst, many int) {
	t.Helper()
	if l, n := All(b); !slices.Equal(l, want) || n != many {
		t.Errorf("All(% x) is %+v, %d; asked %+v, %d", b, l, n, want, many)
	}
}

func TestAll(t *testing.T) {
	checkAll(t, nil, nil, 0)
	checkAll(t, []byte{}, nil, 0)
	l, texts := some()
	b := raw(t, strings.Join(texts, ""))
	checkAll(t, b, l, len(b))
	// Each beginning: as many as are whole.
	at, whole := 0, 0
	for many := range b {
		if many == at+len(texts[whole])/2 {
			at += len(texts[whole]) / 2
			whole++
		}
		checkAll(t, b[:many], l[:whole], at)
	}
	checkAll(t, bytes.Repeat(b, 100), slices.Repeat(l, 100), 100*len(b))
	many := 1 << 18
	checkAll(t, bytes.Repeat([]byte{0x90}, many), slices.Repeat([]api.Inst{{Op: 0x90}}, many), many)
}

// TestAllWithWrong puts what is none at each place among others: the first, amidst, the last, and alone.
func TestAllWithWrong(t *testing.T) {
	l, texts := some()
	for _, wrong := range strings.Fields(bad) {
		for at := range len(texts) + 1 {
			ahead := raw(t, strings.Join(texts[:at], ""))
			behind := raw(t, wrong+strings.Join(texts[at:], ""))
			checkAll(t, append(ahead, behind...), l[:at], len(ahead))
		}
		checkAll(t, raw(t, wrong), nil, 0)
	}
	// What is too short stands behind the others alone: more bytes might make it whole.
	for _, wrong := range strings.Fields(short) {
		for at := range len(texts) + 1 {
			ahead := raw(t, strings.Join(texts[:at], ""))
			checkAll(t, append(slices.Clone(ahead), raw(t, wrong)...), l[:at], len(ahead))
		}
	}
}

// TestAllOfAny has bytes that are drawn by a rule: All is what Get tells, again and again.
func TestAllOfAny(t *testing.T) {
	state := uint64(7)
	for range 20000 {
		b := make([]byte, 24)
		for at := range b {
			state = state*6364136223846793005 + 1442695040888963407
			b[at] = byte(state >> 56)
		}
		var want []api.Inst
		many := 0
		for i, n, e := Get(b); e == api.OK; i, n, e = Get(b[many:]) {
			want = append(want, i)
			many += n
		}
		checkAll(t, b, want, many)
	}
}

// TestManyPrefixes has more prefixes than there may be, however many.
func TestManyPrefixes(t *testing.T) {
	for _, p := range []byte(prefixes) {
		b := bytes.Repeat([]byte{p}, 1<<20)
		if i, n, e := Get(b); i != (api.Inst{}) || n != 0 || e != api.ErrForm {
			t.Errorf("Get of many %x is %+v, %d, %d", p, i, n, e)
		}
		checkAll(t, b[:1000], nil, 0)
	}
}

// TestAnswersAreTheCallers spoils what was handed in, and what was told, and asks again.
func TestAnswersAreTheCallers(t *testing.T) {
	want, texts := some()
	b := raw(t, strings.Join(texts, ""))
	kept := slices.Clone(b)
	first, _ := All(b)
	second, _ := All(b)
	if !bytes.Equal(b, kept) {
		t.Errorf("what was handed in is % x", b)
	}
	clear(first[:cap(first)])
	if !slices.Equal(second, want) {
		t.Errorf("what was told is %+v", second)
	}
	checkAll(t, b, want, len(b))
	clear(b)
	if !slices.Equal(second, want) {
		t.Errorf("what was told is %+v", second)
	}
	checkAll(t, kept, want, len(kept))
}
