package inst

import (
	"math"
	"strconv"
	"strings"
	"testing"

	"hansom/api"
)

// forms is what stands in each instruction behind its first byte, by first bytes (from one to another) and middles of the second byte
// (where not each will do): m a second byte, n one that tells something in memory; b a byte, t the ten, s a byte whose sign is spread,
// w a word, p an offset and a segment; r what repeats, f as long as something is found. What is not listed is no instruction.
const forms = `
00-03 m; 04 b; 05 w; 06-07 .; 08-0B m; 0C b; 0D w; 0E .; 10-13 m; 14 b; 15 w; 16-17 .; 18-1B m; 1C b; 1D w; 1E-1F .
20-23 m; 24 b; 25 w; 27 .; 28-2B m; 2C b; 2D w; 2F .; 30-33 m; 34 b; 35 w; 37 .; 38-3B m; 3C b; 3D w; 3F .
40-5F .; 70-7F s; 80 mb; 81 mw; 83/02357 ms; 84-8B m; 8C/0123 m; 8D n; 8E/023 m; 8F/0 m; 90-99 .; 9A p; 9B-9F .
A0-A3 w; A4-A5 r; A6-A7 rf; A8 b; A9 w; AA-AD r; AE-AF rf; B0-B7 b; B8-BF w; C2 w; C3 .; C4-C5 n; C6/0 mb; C7/0 mw
CA w; CB-CC .; CD b; CE-CF .; D0-D3/0123457 m; D4-D5 t; D7 .; D8-DF m; E0-E3 s; E4-E7 b; E8-E9 w; EA p; EB s; EC-EF .
F4-F5 .; F6/0 mb; F6/234567 m; F7/0 mw; F7/234567 m; F8-FD .; FE/01 m; FF/01246 m; FF/35 n
`

// form is what one first byte (with one middle) asks; name is what it does not tell.
type form string

func (f form) has(letters string) bool { return strings.ContainsAny(string(f), letters) }

// behind is how many bytes stand behind.
func (f form) behind() int {
	switch {
	case f.has("bts"):
		return 1
	case f.has("w"):
		return 2
	case f.has("p"):
		return 4
	}
	return 0
}

func hex(t *testing.T, s string) int {
	n, err := strconv.ParseUint(s, 16, 8)
	if err != nil {
		t.Fatal(err)
	}
	return int(n)
}

// readForms is the forms of all first bytes and middles; of none "".
func readForms(t *testing.T) (all [256][8]form) {
	for _, row := range strings.Split(strings.ReplaceAll(strings.TrimSpace(forms), "\n", ";"), ";") {
		head, f, _ := strings.Cut(strings.TrimSpace(row), " ")
		ops, middles, some := strings.Cut(head, "/")
		if !some {
			middles = "01234567"
		}
		from, to, many := strings.Cut(ops, "-")
		if !many {
			to = from
		}
		for op := hex(t, from); op <= hex(t, to); op++ {
			for _, m := range middles {
				if all[op][m-'0'] != "" {
					t.Fatalf("%02X/%c stands twice", op, m)
				}
				all[op][m-'0'] = form(f)
			}
		}
	}
	return all
}

// isSpread tells whether a word is a byte whose sign is spread.
func isSpread(w uint16) bool { return w <= 0x7f || w >= 0xff80 }

func within(n, from, to int) bool { return from <= n && n <= to }

// disps is how many bytes tell how far from there.
func disps(mod, rm int) int {
	return [4][8]int{{6: 2}, {1, 1, 1, 1, 1, 1, 1, 1}, {2, 2, 2, 2, 2, 2, 2, 2}}[mod][rm]
}

// secondIs tells whether the second byte's parts are such as a form asks.
func secondIs(f form, i api.Inst) bool {
	if !f.has("mn") {
		return i.Mod == 0 && i.Reg == 0 && i.RM == 0 && i.Disp == 0
	}
	if !within(i.Mod, 0, 3) || !within(i.Reg, 0, 7) || !within(i.RM, 0, 7) || f.has("n") && i.Mod == 3 {
		return false
	}
	n := disps(i.Mod, i.RM)
	return n == 2 || n == 1 && isSpread(i.Disp) || i.Disp == 0
}

// restIs tells the same of all else.
func restIs(f form, i api.Inst) bool {
	switch {
	case i.Sel != 0 && !f.has("p"), !within(i.Seg, 0, 4), !within(i.Rep, 0, 2):
		return false
	case i.Rep == 1 && !f.has("f"), i.Rep == 2 && !f.has("r"):
		return false
	case f.has("b"):
		return i.Imm <= 255
	case f.has("t"):
		return i.Imm == 10
	case f.has("s"):
		return isSpread(i.Imm)
	}
	return f.has("wp") || i.Imm == 0
}

// prefixes is how many prefixes an instruction has.
func prefixes(i api.Inst) int {
	n := 0
	for _, has := range []bool{i.Lock, i.Rep > 0, i.Seg > 0} {
		if has {
			n++
		}
	}
	return n
}

// checkModel holds May, Len, Ahead and Tail against what a form asks.
func checkModel(t *testing.T, f form, i api.Inst) {
	t.Helper()
	may := f != "" && secondIs(f, i) && restIs(f, i)
	length, tail := 0, 0
	if may {
		tail = prefixes(i) + 1
		if f.has("mn") {
			tail += 1 + disps(i.Mod, i.RM)
		}
		length = tail + f.behind()
	}
	if May(i) != may || Len(i) != length || Tail(i) != tail || Ahead(i) != prefixes(i) {
		t.Fatalf("%+v: May %t, Len %d, Tail %d, Ahead %d; asked %t, %d, %d, %d", i, May(i), Len(i), Tail(i), Ahead(i), may, length, tail, prefixes(i))
	}
}

// good is an instruction that may be, of that form; of no form it is none.
func good(f form, op, reg int) api.Inst {
	i := api.Inst{Op: byte(op)}
	if f == "" || f.has("mn") {
		i.Reg = reg
	}
	if f.has("t") {
		i.Imm = 10
	}
	return i
}

func TestEachFormHasOneThatMayBe(t *testing.T) {
	all := readForms(t)
	for op := range 256 {
		for reg, f := range all[op] {
			if i := good(f, op, reg); f != "" && !May(i) {
				t.Errorf("%+v may be", i)
			}
		}
	}
}

func TestSecondBytesOfAll(t *testing.T) {
	all := readForms(t)
	words := []uint16{0, 1, 0x7f, 0x80, 0xff, 0xff7f, 0xff80, 0xffff, 0x1234}
	for op := range 256 {
		for reg := -9; reg <= 16; reg++ {
			f := all[op][reg&7]
			for mod := -1; mod <= 4; mod++ {
				for rm := -2; rm <= 9; rm++ {
					i := good(f, op, reg)
					i.Mod, i.Reg, i.RM = mod, reg, rm
					for _, i.Disp = range words {
						checkModel(t, f, i)
					}
				}
			}
		}
	}
}

func TestAllElseOfAll(t *testing.T) {
	all := readForms(t)
	words := []uint16{0, 1, 9, 10, 11, 0x7f, 0x80, 0xff, 0x100, 0x10a, 0xff7f, 0xff80, 0xffff}
	for op := range 256 {
		for reg, f := range all[op] {
			i := good(f, op, reg)
			for _, i.Imm = range words {
				for _, i.Sel = range []uint16{0, 1, 0xffff} {
					for i.Rep = -1; i.Rep <= 3; i.Rep++ {
						for i.Seg = -1; i.Seg <= 5; i.Seg++ {
							for _, i.Lock = range []bool{false, true} {
								checkModel(t, f, i)
							}
						}
					}
				}
			}
		}
	}
}

func TestRow(t *testing.T) {
	cases := []struct {
		i    api.Inst
		row  api.Row
		some bool
	}{
		{api.Inst{Op: 0x90}, api.Row{Name: api.XCHG, A: api.OpAX, B: api.OpZv}, true},
		{api.Inst{Op: 0x00, Reg: 5}, api.Row{Name: api.ADD, A: api.OpEb, B: api.OpGb, Mod: true}, true},
		{api.Inst{Op: 0xff, Reg: 5}, api.Row{Name: api.JMPF, A: api.OpMp, Mod: true}, true},
		{api.Inst{Op: 0xff, Reg: 7}, api.Row{}, false},
		// What else is wrong of it plays no part; a middle is taken modulo 8.
		{api.Inst{Op: 0xff, Reg: 13, Mod: 9, RM: -4, Rep: 7, Seg: -1}, api.Row{Name: api.JMPF, A: api.OpMp, Mod: true}, true},
		{api.Inst{Op: 0xff, Reg: -3}, api.Row{Name: api.JMPF, A: api.OpMp, Mod: true}, true},
		{api.Inst{Op: 0x0f}, api.Row{}, false},
	}
	for _, c := range cases {
		if r, ok := Row(c.i); r != c.row || ok != c.some {
			t.Errorf("Row(%+v) is %+v, %t", c.i, r, ok)
		}
	}
	all := readForms(t)
	for op := range 256 {
		for reg, f := range all[op] {
			r, ok := Row(api.Inst{Op: byte(op), Reg: reg})
			if ok != (f != "") || r.Mod != f.has("mn") || !ok && r != (api.Row{}) {
				t.Errorf("Row of %02X/%d is %+v, %t", op, reg, r, ok)
			}
			if Imms(r) != f.behind() {
				t.Errorf("Imms of %02X/%d is %d", op, reg, Imms(r))
			}
		}
	}
}

// prefixBytes is all the prefixes there are.
const prefixBytes = "\x26\x2e\x36\x3e\xf0\xf2\xf3"

func TestPrefixesAreNoInstructions(t *testing.T) {
	for _, b := range []byte(prefixBytes) {
		for reg := range 8 {
			i := api.Inst{Op: b, Reg: reg}
			if r, ok := Row(i); ok || r != (api.Row{}) {
				t.Errorf("Row of %02X is %+v, %t", b, r, ok)
			}
			if May(i) || Len(i) != 0 || Tail(i) != 0 {
				t.Errorf("%02X may be", b)
			}
		}
	}
}

func TestDisps(t *testing.T) {
	for rm := range 8 {
		direct := 0
		if rm == 6 {
			direct = 2
		}
		for mod, want := range []int{direct, 1, 2, 0} {
			if n := Disps(mod, rm); n != want {
				t.Errorf("Disps(%d, %d) is %d", mod, rm, n)
			}
		}
	}
	for _, mod := range []int{math.MinInt, -2, -1, 4, 5, 6, math.MaxInt} {
		for _, rm := range []int{math.MinInt, -2, 0, 6, 7, 8, math.MaxInt} {
			if n := Disps(mod, rm); n != 0 {
				t.Errorf("Disps(%d, %d) is %d", mod, rm, n)
			}
		}
	}
}

func TestImms(t *testing.T) {
	// By operands' numbers, from OpNone on.
	bytes := [25]int{api.OpIb: 1, api.OpIs: 1, api.OpJb: 1, api.OpIv: 2, api.OpJv: 2, api.OpOb: 2, api.OpOv: 2, api.OpAp: 4}
	for a, n := range bytes {
		for b, m := range bytes {
			if got := Imms(api.Row{Name: api.MOV, A: a, B: b, Mod: true}); got != n+m {
				t.Errorf("Imms of %d and %d is %d", a, b, got)
			}
		}
	}
	for _, none := range []int{math.MinInt, -1, 25, math.MaxInt} {
		if n := Imms(api.Row{A: none, B: none}); n != 0 {
			t.Errorf("Imms of %d is %d", none, n)
		}
	}
}

// TestEdges has, for each condition, instructions that just keep it and such that just break it.
func TestEdges(t *testing.T) {
	cases := []struct {
		what string
		i    api.Inst
		n    int // how many bytes; 0: there is none such
		tail int
	}{
		{"a first byte", api.Inst{Op: 0x90}, 1, 1},
		{"a first byte of none", api.Inst{Op: 0x0f}, 0, 0},
		{"a first byte of none", api.Inst{Op: 0x6f}, 0, 0},
		{"a middle of none", api.Inst{Op: 0xfe, Reg: 2}, 0, 0},
		{"a middle", api.Inst{Op: 0xfe, Reg: 1}, 2, 2},
		{"a prefix", api.Inst{Op: 0x26}, 0, 0},
		{"a prefix", api.Inst{Op: 0xf3}, 0, 0},
		{"Mod least", api.Inst{Op: 0x88}, 2, 2},
		{"Mod below", api.Inst{Op: 0x88, Mod: -1}, 0, 0},
		{"Mod greatest", api.Inst{Op: 0x88, Mod: 3}, 2, 2},
		{"Mod above", api.Inst{Op: 0x88, Mod: 4}, 0, 0},
		{"Reg greatest", api.Inst{Op: 0x88, Reg: 7}, 2, 2},
		{"Reg above", api.Inst{Op: 0x88, Reg: 8}, 0, 0},
		{"Reg below", api.Inst{Op: 0x88, Reg: -1}, 0, 0},
		{"RM greatest", api.Inst{Op: 0x88, RM: 7}, 2, 2},
		{"RM above", api.Inst{Op: 0x88, RM: 8}, 0, 0},
		{"RM below", api.Inst{Op: 0x88, RM: -1}, 0, 0},
		{"no second byte: Mod", api.Inst{Op: 0x90, Mod: 1}, 0, 0},
		{"no second byte: Reg", api.Inst{Op: 0x90, Reg: 1}, 0, 0},
		{"no second byte: RM", api.Inst{Op: 0x90, RM: 1}, 0, 0},
		{"no second byte: Disp", api.Inst{Op: 0x90, Disp: 1}, 0, 0},
		{"no second byte: Reg comes round", api.Inst{Op: 0x90, Reg: 8}, 0, 0},
		{"M, Mod 2", api.Inst{Op: 0x8d, Mod: 2}, 4, 4},
		{"M, Mod 3", api.Inst{Op: 0x8d, Mod: 3}, 0, 0},
		{"Mp second, Mod 2", api.Inst{Op: 0xc4, Mod: 2}, 4, 4},
		{"Mp second, Mod 3", api.Inst{Op: 0xc5, Mod: 3}, 0, 0},
		{"Mp first, Mod 2", api.Inst{Op: 0xff, Reg: 3, Mod: 2}, 4, 4},
		{"Mp first, Mod 3", api.Inst{Op: 0xff, Reg: 5, Mod: 3}, 0, 0},
		{"a word direct", api.Inst{Op: 0x88, RM: 6, Disp: 0x1234}, 4, 4},
		{"Disp of none", api.Inst{Op: 0x88, RM: 5, Disp: 1}, 0, 0},
		{"Disp of a register", api.Inst{Op: 0x88, Mod: 3, RM: 6, Disp: 1}, 0, 0},
		{"Disp 7F", api.Inst{Op: 0x88, Mod: 1, Disp: 0x7f}, 3, 3},
		{"Disp 80", api.Inst{Op: 0x88, Mod: 1, Disp: 0x80}, 0, 0},
		{"Disp FF80", api.Inst{Op: 0x88, Mod: 1, Disp: 0xff80}, 3, 3},
		{"Disp FF7F", api.Inst{Op: 0x88, Mod: 1, Disp: 0xff7f}, 0, 0},
		{"Disp of Mod 1, RM 6", api.Inst{Op: 0x88, Mod: 1, RM: 6, Disp: 0x100}, 0, 0},
		{"Disp a word", api.Inst{Op: 0x88, Mod: 2, Disp: 0xff7f}, 4, 4},
		{"Ib 255", api.Inst{Op: 0xb0, Imm: 255}, 2, 1},
		{"Ib 256", api.Inst{Op: 0xb0, Imm: 256}, 0, 0},
		{"Ib FFFF", api.Inst{Op: 0x04, Imm: 0xffff}, 0, 0},
		{"Ib first", api.Inst{Op: 0xe6, Imm: 255}, 2, 1},
		{"Ib first", api.Inst{Op: 0xe6, Imm: 256}, 0, 0},
		{"AAM 10", api.Inst{Op: 0xd4, Imm: 10}, 2, 1},
		{"AAM 9", api.Inst{Op: 0xd4, Imm: 9}, 0, 0},
		{"AAM 0", api.Inst{Op: 0xd4}, 0, 0},
		{"AAD 10", api.Inst{Op: 0xd5, Imm: 10}, 2, 1},
		{"AAD 11", api.Inst{Op: 0xd5, Imm: 11}, 0, 0},
		{"AAD 10 and 256", api.Inst{Op: 0xd5, Imm: 266}, 0, 0},
		{"Is 7F", api.Inst{Op: 0x83, Imm: 0x7f}, 3, 2},
		{"Is 80", api.Inst{Op: 0x83, Imm: 0x80}, 0, 0},
		{"Is FF80", api.Inst{Op: 0x83, Imm: 0xff80}, 3, 2},
		{"Is FF7F", api.Inst{Op: 0x83, Imm: 0xff7f}, 0, 0},
		{"Jb 7F", api.Inst{Op: 0x74, Imm: 0x7f}, 2, 1},
		{"Jb 80", api.Inst{Op: 0x74, Imm: 0x80}, 0, 0},
		{"Jb FF80", api.Inst{Op: 0xeb, Imm: 0xff80}, 2, 1},
		{"Jb FF7F", api.Inst{Op: 0xeb, Imm: 0xff7f}, 0, 0},
		{"Jv", api.Inst{Op: 0xe8, Imm: 0xff7f}, 3, 1},
		{"Ov", api.Inst{Op: 0xa1, Imm: 0x8000}, 3, 1},
		{"Iv behind all", api.Inst{Op: 0xc7, Mod: 2, Disp: 0x8000, Imm: 0x8000}, 6, 4},
		{"nothing behind", api.Inst{Op: 0xf8, Imm: 1}, 0, 0},
		{"nothing behind a second byte", api.Inst{Op: 0x88, Imm: 1}, 0, 0},
		{"3 is not behind", api.Inst{Op: 0xcc, Imm: 3}, 0, 0},
		{"Ap, Sel", api.Inst{Op: 0x9a, Imm: 0xfffe, Sel: 0xffff}, 5, 1},
		{"Ap, Sel 0", api.Inst{Op: 0xea}, 5, 1},
		{"no Ap, Sel", api.Inst{Op: 0xe9, Sel: 1}, 0, 0},
		{"Mp, Sel", api.Inst{Op: 0xff, Reg: 3, Sel: 1}, 0, 0},
		{"Rep below", api.Inst{Op: 0xa6, Rep: -1}, 0, 0},
		{"Rep above", api.Inst{Op: 0xa6, Rep: 3}, 0, 0},
		{"Rep 1 of what finds", api.Inst{Op: 0xa6, Rep: 1}, 2, 2},
		{"Rep 2 of what finds", api.Inst{Op: 0xaf, Rep: 2}, 2, 2},
		{"Rep 1 of what goes on", api.Inst{Op: 0xa4, Rep: 1}, 0, 0},
		{"Rep 2 of what goes on", api.Inst{Op: 0xad, Rep: 2}, 2, 2},
		{"Rep 2 of what does not repeat", api.Inst{Op: 0x90, Rep: 2}, 0, 0},
		{"Rep 1 of what does not repeat", api.Inst{Op: 0x90, Rep: 1}, 0, 0},
		{"Seg greatest", api.Inst{Op: 0x90, Seg: 4}, 2, 2},
		{"Seg above", api.Inst{Op: 0x90, Seg: 5}, 0, 0},
		{"Seg below", api.Inst{Op: 0x90, Seg: -1}, 0, 0},
		{"Lock", api.Inst{Op: 0x90, Lock: true}, 2, 2},
		{"the longest", api.Inst{Lock: true, Seg: 1, Op: 0x81, RM: 6, Imm: 0x100}, 8, 6},
		{"all prefixes", api.Inst{Lock: true, Rep: 2, Seg: 3, Op: 0xa5}, 4, 4},
	}
	for _, c := range cases {
		if May(c.i) != (c.n > 0) || Len(c.i) != c.n || Tail(c.i) != c.tail {
			t.Errorf("%s: %+v: May %t, Len %d, Tail %d", c.what, c.i, May(c.i), Len(c.i), Tail(c.i))
		}
	}
}

func TestAhead(t *testing.T) {
	cases := []struct {
		i api.Inst
		n int
	}{
		{api.Inst{}, 0},
		{api.Inst{Lock: true}, 1},
		{api.Inst{Rep: 1}, 1},
		{api.Inst{Rep: 2}, 1},
		{api.Inst{Seg: 1}, 1},
		{api.Inst{Seg: 4}, 1},
		{api.Inst{Rep: 1, Seg: 1}, 2},
		{api.Inst{Lock: true, Rep: 2, Seg: 4}, 3},
		// It counts those of what may not be, too.
		{api.Inst{Op: 0x26, Lock: true}, 1},
		{api.Inst{Rep: 3, Seg: 5}, 2},
		{api.Inst{Rep: math.MaxInt, Seg: math.MaxInt}, 2},
		{api.Inst{Rep: -1, Seg: -1}, 0},
		{api.Inst{Lock: true, Rep: math.MinInt, Seg: math.MinInt}, 1},
	}
	for _, c := range cases {
		if n := Ahead(c.i); n != c.n {
			t.Errorf("Ahead(%+v) is %d", c.i, n)
		}
	}
}

func TestFarOutOfRange(t *testing.T) {
	for op := range 256 {
		for _, n := range []int{math.MinInt, math.MinInt + 8, -256, -8, 256, math.MaxInt - 7, math.MaxInt} {
			for _, i := range []api.Inst{{Mod: n}, {Reg: n}, {RM: n}, {Rep: n}, {Seg: n}, {Rep: n, Seg: n, Mod: n, Reg: n, RM: n, Disp: 0xffff, Imm: 0xffff, Sel: 0xffff}} {
				i.Op = byte(op)
				Row(i)
				Disps(i.Mod, i.RM)
				Ahead(i)
				if May(i) || Len(i) != 0 || Tail(i) != 0 {
					t.Errorf("%+v may be", i)
				}
			}
		}
	}
}
