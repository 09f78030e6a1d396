package code

import (
	"bytes"
	"encoding/hex"
	"math"
	"slices"
	"strconv"
	"strings"
	"testing"

	"hansom/api"
	"hansom/inst"
)

// The first bytes (from one to another) that have a second one, and those that have one, two and four bytes behind (/0: of that middle alone).
const (
	seconds = "00-03 08-0B 10-13 18-1B 20-23 28-2B 30-33 38-3B 80-81 83-8F C4-C7 D0-D3 D8-DF F6-F7 FE-FF"
	ones    = "04 0C 14 1C 24 2C 34 3C 70-7F 80 83 A8 B0-B7 C6 CD D4-D5 E0-E7 EB F6/0"
	twos    = "05 0D 15 1D 25 2D 35 3D 81 A0-A3 A9 B8-BF C2 C7 CA E8-E9 F7/0"
	fours   = "9A EA"
)

// spreads is the first bytes behind which stands a byte whose sign is spread.
const spreads = "70-7F 83 E0-E3 EB"

// shape is what stands in an instruction beside its prefixes and its first byte.
type shape struct {
	second bool
	behind int
	spread bool
}

// among tells for which first bytes and middles a list has something.
func among(t *testing.T, list string) (is [256][8]bool) {
	number := func(s string) int {
		n, err := strconv.ParseUint(s, 16, 8)
		if err != nil {
			t.Fatal(err)
		}
		return int(n)
	}
	for _, entry := range strings.Fields(list) {
		span, middle, single := strings.Cut(entry, "/")
		from, to, many := strings.Cut(span, "-")
		if !many {
			to = from
		}
		for op := number(from); op <= number(to); op++ {
			for reg := range 8 {
				is[op][reg] = is[op][reg] || !single || middle == strconv.Itoa(reg)
			}
		}
	}
	return is
}

// shapes is the shapes of all first bytes and middles.
func shapes(t *testing.T) (all [256][8]shape) {
	second, spread := among(t, seconds), among(t, spreads)
	one, two, four := among(t, ones), among(t, twos), among(t, fours)
	for op := range 256 {
		for reg := range 8 {
			s := shape{second: second[op][reg], spread: spread[op][reg]}
			switch {
			case one[op][reg]:
				s.behind = 1
			case two[op][reg]:
				s.behind = 2
			case four[op][reg]:
				s.behind = 4
			}
			all[op][reg] = s
		}
	}
	return all
}

// distances is how many bytes tell how far from there.
func distances(mod, rm int) int {
	if mod == 0 && rm == 6 {
		return 2
	}
	return []int{0, 1, 2, 0}[mod]
}

// text is an instruction's bytes as the chapter tells them, in hexadecimal.
func (s shape) text(i api.Inst) string {
	words := func(n int, l ...uint16) string {
		t := ""
		for _, w := range l {
			d := strconv.FormatUint(uint64(w)|0x10000, 16)
			t += d[3:5] + d[1:3]
		}
		return t[:2*n]
	}
	t := ""
	if i.Lock {
		t = "f0"
	}
	t += []string{"", "f2", "f3"}[i.Rep] + []string{"", "26", "2e", "36", "3e"}[i.Seg] + words(1, uint16(i.Op))
	if s.second {
		t += words(1, uint16(64*i.Mod+8*i.Reg+i.RM)) + words(distances(i.Mod, i.RM), i.Disp)
	}
	return t + words(s.behind, i.Imm, i.Sel)
}

// check holds Put against the shape; what may not be has no bytes.
func check(t *testing.T, s shape, i api.Inst) {
	t.Helper()
	b, e := Put(i)
	if !inst.May(i) {
		if b != nil || e != api.ErrInput {
			t.Fatalf("Put(%+v) is % x, %d, and it may not be", i, b, e)
		}
		return
	}
	if want := s.text(i); hex.EncodeToString(b) != want || e != api.OK {
		t.Fatalf("Put(%+v) is % x, %d; asked %s", i, b, e, want)
	}
	if len(b) != inst.Len(i) {
		t.Fatalf("Put(%+v) has %d bytes, and Len is %d", i, len(b), inst.Len(i))
	}
	if back, n := s.read(b); back != i || n != len(b) {
		t.Fatalf("Put(%+v) is % x, and is read as %+v with %d bytes", i, b, back, n)
	}
}

// read is the instruction of that shape that bytes begin with, and how many they are: what makes bytes is to be told from them again.
func (s shape) read(b []byte) (i api.Inst, n int) {
	next := func() int {
		n++
		return int(b[n-1])
	}
	number := func(many int) (w uint16) {
		for at := range many {
			w |= uint16(next() << (8 * at))
		}
		return w
	}
	spread := func(many int) uint16 {
		if many == 1 {
			return uint16(int8(next()))
		}
		return number(many)
	}
	for strings.IndexByte("\x26\x2e\x36\x3e\xf0\xf2\xf3", b[n]) >= 0 {
		switch p := next(); p {
		case 0xf0:
			i.Lock = true
		case 0xf2, 0xf3:
			i.Rep = p - 0xf1
		default:
			i.Seg = (p-0x26)/8 + 1
		}
	}
	i.Op = byte(next())
	if s.second {
		m := next()
		i.Mod, i.Reg, i.RM = m>>6, m>>3&7, m&7
		i.Disp = spread(distances(i.Mod, i.RM))
	}
	if s.spread {
		i.Imm = spread(s.behind)
	} else {
		i.Imm = number(min(s.behind, 2))
	}
	i.Sel = number(max(s.behind-2, 0))
	return i, n
}

// plain is the plainest instruction of that first byte and middle; false: there is none, or it is the one of middle 0.
func plain(s shape, op, reg int) (api.Inst, bool) {
	i := api.Inst{Op: byte(op)}
	if s.second {
		i.Reg = reg
	}
	if op == 0xd4 || op == 0xd5 {
		i.Imm = 10
	}
	_, is := inst.Row(i)
	return i, is && (s.second || reg == 0)
}

// TestSecondBytes has every first byte and middle, with all parts of the second byte and beyond, and how far from there.
func TestSecondBytes(t *testing.T) {
	all := shapes(t)
	for op := range 256 {
		for reg, s := range all[op] {
			i, is := plain(s, op, reg)
			if is && !inst.May(i) {
				t.Errorf("%+v may be", i)
			}
			i.Reg = reg
			for i.Mod = -1; i.Mod <= 4; i.Mod++ {
				for i.RM = -1; i.RM <= 8; i.RM++ {
					for _, i.Disp = range []uint16{0, 1, 0x7f, 0x80, 0xff, 0x1234, 0xff7f, 0xff80, 0xffff} {
						check(t, s, i)
					}
				}
			}
		}
	}
}

// TestBehind has every first byte and middle, with what stands behind, with each way to tell how far from there ahead of it.
func TestBehind(t *testing.T) {
	all := shapes(t)
	for op := range 256 {
		for reg, s := range all[op] {
			i, _ := plain(s, op, reg)
			for mod := range 4 {
				i.Mod, i.RM = mod, 6
				for _, i.Imm = range []uint16{0, 1, 9, 10, 0x7f, 0x80, 0xff, 0x100, 0x1234, 0xff7f, 0xff80, 0xffff} {
					for _, i.Sel = range []uint16{0, 1, 0x5678, 0xff00} {
						check(t, s, i)
						if !s.second {
							check(t, s, api.Inst{Op: i.Op, Imm: i.Imm, Sel: i.Sel})
						}
					}
				}
			}
		}
	}
}

// TestPrefixes has every first byte and middle, with each prefix, all of them together, and those that there are not.
func TestPrefixes(t *testing.T) {
	all := shapes(t)
	for op := range 256 {
		for reg, s := range all[op] {
			i, _ := plain(s, op, reg)
			for i.Rep = -1; i.Rep <= 3; i.Rep++ {
				for i.Seg = -1; i.Seg <= 5; i.Seg++ {
					for _, i.Lock = range []bool{false, true} {
						check(t, s, i)
					}
				}
			}
		}
	}
}

// TestBytes has bytes that are written out, one instruction or more of each kind.
func TestBytes(t *testing.T) {
	cases := []struct {
		i    api.Inst
		want string
	}{
		{api.Inst{Op: 0xb8, Imm: 0x1234}, "b83412"},
		{api.Inst{Op: 0x90}, "90"},
		{api.Inst{}, "0000"},
		{api.Inst{Op: 0x89, Mod: 3, Reg: 1, RM: 2}, "89ca"},
		{api.Inst{Op: 0x8b, Mod: 3, Reg: 7, RM: 7}, "8bff"},
		{api.Inst{Op: 0x8a, RM: 6, Disp: 0x1234}, "8a063412"},
		{api.Inst{Op: 0x8a, Mod: 1, Reg: 4, RM: 6}, "8a6600"},
		{api.Inst{Op: 0x8a, Mod: 1, Reg: 4, RM: 7, Disp: 0x7f}, "8a677f"},
		{api.Inst{Op: 0x8a, Mod: 1, Reg: 4, RM: 7, Disp: 0xff80}, "8a6780"},
		{api.Inst{Op: 0x8a, Mod: 2, Reg: 4, RM: 7, Disp: 0xff80}, "8aa780ff"},
		{api.Inst{Op: 0x8e, Mod: 3, Reg: 3}, "8ed8"},
		{api.Inst{Op: 0x8d, Mod: 1, Reg: 6, RM: 2, Disp: 0xffff}, "8d72ff"},
		{api.Inst{Op: 0xc5, Reg: 6, RM: 5}, "c535"},
		{api.Inst{Op: 0x04, Imm: 0xff}, "04ff"},
		{api.Inst{Op: 0x3d, Imm: 0xff80}, "3d80ff"},
		{api.Inst{Op: 0x80, Mod: 1, Reg: 7, RM: 4, Disp: 5, Imm: 0xfe}, "807c05fe"},
		{api.Inst{Op: 0x81, Mod: 2, Reg: 5, RM: 3, Disp: 0x0102, Imm: 0x0304}, "81ab02010403"},
		{api.Inst{Op: 0x83, Mod: 3, Reg: 5, RM: 4, Imm: 0xfffe}, "83ecfe"},
		{api.Inst{Op: 0xc7, RM: 6, Disp: 0x0102, Imm: 0x0304}, "c70602010403"},
		{api.Inst{Op: 0xf6, Mod: 3, RM: 1, Imm: 0x80}, "f6c180"},
		{api.Inst{Op: 0xf6, Mod: 3, Reg: 3, RM: 1}, "f6d9"},
		{api.Inst{Op: 0xff, Reg: 3, RM: 6, Disp: 0x8000}, "ff1e0080"},
		{api.Inst{Op: 0xdf, Mod: 3, Reg: 7, RM: 7}, "dfff"},
		{api.Inst{Op: 0x74, Imm: 0xfffe}, "74fe"},
		{api.Inst{Op: 0xeb, Imm: 0x7f}, "eb7f"},
		{api.Inst{Op: 0xe9, Imm: 0xff80}, "e980ff"},
		{api.Inst{Op: 0xe6, Imm: 0x60}, "e660"},
		{api.Inst{Op: 0xa3, Imm: 0x0102}, "a30201"},
		{api.Inst{Op: 0xc2, Imm: 2}, "c20200"},
		{api.Inst{Op: 0xcc}, "cc"},
		{api.Inst{Op: 0xcd, Imm: 0x21}, "cd21"},
		{api.Inst{Op: 0xd4, Imm: 10}, "d40a"},
		{api.Inst{Op: 0xd5, Imm: 10}, "d50a"},
		{api.Inst{Op: 0x9a, Imm: 0x1234, Sel: 0x5678}, "9a34127856"},
		{api.Inst{Op: 0xea, Sel: 1}, "ea00000100"},
		{api.Inst{Op: 0x90, Lock: true}, "f090"},
		{api.Inst{Op: 0xa6, Rep: 1}, "f2a6"},
		{api.Inst{Op: 0xa6, Rep: 2}, "f3a6"},
		{api.Inst{Op: 0xa4, Rep: 2}, "f3a4"},
		{api.Inst{Op: 0xac, Seg: 1}, "26ac"},
		{api.Inst{Op: 0xac, Seg: 2}, "2eac"},
		{api.Inst{Op: 0xac, Seg: 3}, "36ac"},
		{api.Inst{Op: 0xac, Seg: 4}, "3eac"},
		{api.Inst{Op: 0xa7, Lock: true, Rep: 1, Seg: 4}, "f0f23ea7"},
		{api.Inst{Op: 0xa5, Lock: true, Rep: 2, Seg: 1}, "f0f326a5"},
		{api.Inst{Op: 0x81, Lock: true, Seg: 2, Mod: 2, RM: 6, Disp: 0x0102, Imm: 0x0304}, "f02e818602010403"},
		{api.Inst{Op: 0x9a, Lock: true, Seg: 3, Imm: 0x0102, Sel: 0x0304}, "f0369a02010403"},
	}
	for _, c := range cases {
		if b, e := Put(c.i); hex.EncodeToString(b) != c.want || e != api.OK {
			t.Errorf("Put(%+v) is % x, %d; asked %s", c.i, b, e, c.want)
		}
	}
}

// wrong is instructions that may not be, one or more of each cause.
func wrong() []api.Inst {
	return []api.Inst{
		{Op: 0x0f}, {Op: 0x6f}, {Op: 0x82}, // no such first byte
		{Op: 0x26}, {Op: 0x3e, Seg: 1}, {Op: 0xf0}, {Op: 0xf2}, {Op: 0xf3}, // a prefix
		{Op: 0xff, Reg: 7}, {Op: 0x83, Reg: 1}, {Op: 0x8e, Reg: 1}, {Op: 0xd0, Reg: 6}, // no such middle
		{Op: 0x88, Mod: -1}, {Op: 0x88, Mod: 4}, {Op: 0x88, Mod: math.MaxInt},
		{Op: 0x88, Reg: -1}, {Op: 0x88, Reg: 8}, {Op: 0x80, Reg: math.MinInt},
		{Op: 0x88, RM: -1}, {Op: 0x88, RM: 8}, {Op: 0x88, RM: math.MaxInt},
		{Op: 0x8d, Mod: 3}, {Op: 0xc4, Mod: 3}, {Op: 0xff, Reg: 5, Mod: 3}, // a register that has no place
		{Op: 0x88, Disp: 1}, {Op: 0x88, Mod: 3, RM: 6, Disp: 1}, {Op: 0x88, Mod: 1, Disp: 0x80}, {Op: 0x88, Mod: 1, Disp: 0xff7f},
		{Op: 0x90, Mod: 1}, {Op: 0x90, Reg: 8}, {Op: 0x90, RM: 1}, {Op: 0x90, Disp: 1}, // no second byte
		{Op: 0x04, Imm: 0x100}, {Op: 0xb0, Imm: 0xffff}, {Op: 0xd4}, {Op: 0xd5, Imm: 11}, {Op: 0xd4, Imm: 0x10a},
		{Op: 0x83, Imm: 0x80}, {Op: 0x74, Imm: 0xff}, {Op: 0xeb, Imm: 0xff7f}, // no byte whose sign is spread
		{Op: 0x90, Imm: 1}, {Op: 0x88, Imm: 1}, {Op: 0xcc, Imm: 3}, // nothing behind
		{Op: 0xe9, Sel: 1}, {Op: 0x90, Sel: 1}, {Op: 0xff, Reg: 3, Sel: 1},
		{Op: 0xa6, Rep: -1}, {Op: 0xa6, Rep: 3}, {Op: 0xa6, Rep: math.MaxInt}, {Op: 0xa6, Rep: math.MinInt},
		{Op: 0xa4, Rep: 1}, {Op: 0x90, Rep: 1}, {Op: 0x90, Rep: 2},
		{Op: 0x90, Seg: -1}, {Op: 0x90, Seg: 5}, {Op: 0x90, Seg: math.MaxInt}, {Op: 0x90, Seg: math.MinInt},
	}
}

func TestWrong(t *testing.T) {
	for _, i := range wrong() {
		if b, e := Put(i); b != nil || e != api.ErrInput {
			t.Errorf("Put(%+v) is % x, %d", i, b, e)
		}
	}
}

// some is instructions that may be, with their bytes one behind the other in someBytes.
func some() []api.Inst {
	return []api.Inst{
		{Op: 0xb8, Imm: 7},
		{Op: 0xe7, Imm: 5},
		{Op: 0xa4, Rep: 2, Seg: 2},
		{Op: 0x9a, Imm: 0x0102, Sel: 0x0304},
		{Op: 0x90},
		{Op: 0xf4},
	}
}

const someBytes = "b80700e705f32ea49a0201040390f4"

func TestAll(t *testing.T) {
	for _, l := range [][]api.Inst{nil, {}} {
		if b, e := All(l); len(b) != 0 || e != api.OK {
			t.Errorf("All of none is % x, %d", b, e)
		}
	}
	if b, e := All([]api.Inst{{Op: 0xb8, Imm: 0x1234}}); hex.EncodeToString(b) != "b83412" || e != api.OK {
		t.Errorf("All of one is % x, %d", b, e)
	}
	l := some()
	if b, e := All(l); hex.EncodeToString(b) != someBytes || e != api.OK {
		t.Errorf("All of some is % x, %d", b, e)
	}
	if !slices.Equal(l, some()) {
		t.Errorf("what was handed in is %+v", l)
	}
	// Alike ones stand as often as they are told.
	if b, e := All(slices.Repeat(some(), 100)); hex.EncodeToString(b) != strings.Repeat(someBytes, 100) || e != api.OK {
		t.Errorf("All of many is % x, %d", b, e)
	}
}

// TestAllWithWrong puts each wrong instruction at each place among others: the first, amidst, the last, and alone.
func TestAllWithWrong(t *testing.T) {
	for _, i := range wrong() {
		if b, e := All([]api.Inst{i}); b != nil || e != api.ErrInput {
			t.Errorf("All of %+v alone is % x, %d", i, b, e)
		}
		for at := range len(some()) + 1 {
			if b, e := All(slices.Insert(some(), at, i)); b != nil || e != api.ErrInput {
				t.Errorf("All with %+v at %d is % x, %d", i, at, b, e)
			}
		}
	}
}

// TestAllOfEach has one instruction of every first byte and middle: All is what Put tells of each, one behind the other.
func TestAllOfEach(t *testing.T) {
	all := shapes(t)
	var l []api.Inst
	var want []byte
	for op := range 256 {
		for reg, s := range all[op] {
			i, is := plain(s, op, reg)
			if !is {
				continue
			}
			b, e := Put(i)
			if e != api.OK {
				t.Errorf("Put(%+v) tells %d", i, e)
			}
			l, want = append(l, i), append(want, b...)
		}
	}
	if b, e := All(l); !bytes.Equal(b, want) || e != api.OK {
		t.Errorf("All of each is % x, %d", b, e)
	}
}

// TestAnswersAreTheCallers spoils answers, also behind their ends, and asks again.
func TestAnswersAreTheCallers(t *testing.T) {
	spoil := func(b []byte) { clear(b[:cap(b)]) }
	i := api.Inst{Op: 0xa6, Lock: true, Rep: 1, Seg: 4}
	first, _ := Put(i)
	second, _ := Put(i)
	spoil(first)
	if hex.EncodeToString(second) != "f0f23ea6" {
		t.Errorf("what was told is % x", second)
	}
	if third, e := Put(i); hex.EncodeToString(third) != "f0f23ea6" || e != api.OK {
		t.Errorf("Put tells % x, %d behind that", third, e)
	}
	whole, _ := All(some())
	again, _ := All(some())
	spoil(whole)
	if hex.EncodeToString(again) != someBytes {
		t.Errorf("what was told is % x", again)
	}
	if b, e := All(some()); hex.EncodeToString(b) != someBytes || e != api.OK {
		t.Errorf("All tells % x, %d behind that", b, e)
	}
}
