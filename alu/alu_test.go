package alu

import (
	"math"
	"testing"

	"hansom/api"
)

// twoNames are the names of what is done to two numbers.
func twoNames() []int {
	return []int{api.ADD, api.OR, api.ADC, api.SBB, api.AND, api.SUB, api.XOR, api.CMP, api.TEST}
}

// oneNames are the names of what is done to one number.
func oneNames() []int { return []int{api.INC, api.DEC, api.NOT, api.NEG} }

// otherNames are all numbers near the names, and some far from them, but those of a list.
func otherNames(but []int) []int {
	is := map[int]bool{}
	for _, name := range but {
		is[name] = true
	}
	all := []int{math.MinInt, math.MinInt32, -1 << 16, 256 + api.ADD, 256 + api.INC, 1<<16 + api.ADD, 1<<16 + api.INC, 1<<32 + api.ADD, 1<<32 + api.INC, math.MaxInt32, math.MaxInt}
	for name := -api.Names - 5; name <= api.Names+5; name++ {
		all = append(all, name)
	}
	var others []int
	for _, name := range all {
		if !is[name] {
			others = append(others, name)
		}
	}
	return others
}

// both are the two values of a question.
func both() [2]bool { return [2]bool{false, true} }

// edges are words at the edges of bytes, words and their signs, and of four bits.
func edges() []uint16 {
	return []uint16{
		0, 1, 2, 7, 8, 0x0e, 0x0f, 0x10, 0x11, 0x7e, 0x7f, 0x80, 0x81, 0xef, 0xf0, 0xfe, 0xff,
		0x100, 0x101, 0x17f, 0x180, 0x0fff, 0x1000, 0x5555, 0x7f00, 0x7f7f, 0x7f80, 0x7ffe, 0x7fff,
		0x8000, 0x8001, 0x807f, 0x8080, 0xaaaa, 0xff00, 0xff7f, 0xff80, 0xfff0, 0xfffe, 0xffff,
	}
}

// drawn are so many words that are drawn by a rule.
func drawn(many int) []uint16 {
	l := make([]uint16, many)
	state := uint32(12345)
	for i := range l {
		state = state*1664525 + 1013904223
		l[i] = uint16(state >> 16)
	}
	return l
}

// numbers are the edges, and some that are drawn.
func numbers() []uint16 { return append(edges(), drawn(120)...) }

// uppers are what may stand above a byte that counts.
func uppers() []uint16 { return []uint16{0, 0x0100, 0x7f00, 0x8000, 0xff00} }

// reckoned is what comes of numbers, and each flag by its name.
type reckoned struct {
	v                uint16
	c, p, a, z, s, o bool
}

// flags is the flags of what is reckoned, as a word.
func (r reckoned) flags() uint16 {
	f := uint16(0)
	for _, flag := range []struct {
		bit uint16
		on  bool
	}{{1, r.c}, {4, r.p}, {16, r.a}, {64, r.z}, {128, r.s}, {2048, r.o}} {
		if flag.on {
			f |= flag.bit
		}
	}
	return f
}

// size is how many bits count.
func size(wide bool) int {
	if wide {
		return 16
	}
	return 8
}

// bit tells whether a bit is set.
func bit(v uint16, n int) bool { return v>>n&1 == 1 }

// signed is a number of so many bits with its sign.
func signed(v uint16, many int) int {
	n := 0
	for k := range many - 1 {
		if bit(v, k) {
			n += 1 << k
		}
	}
	if bit(v, many-1) {
		n -= 1 << (many - 1)
	}
	return n
}

// reckon puts two numbers together bit by bit, by a rule that tells of two bits, and of what came in, which bit stands there and what goes out.
func reckon(a, b uint16, came, wide bool, rule func(x, y, in bool) (bool, bool)) reckoned {
	var r reckoned
	carry := came
	for k := range size(wide) {
		var one bool
		one, carry = rule(bit(a, k), bit(b, k), carry)
		if one {
			r.v |= 1 << k
		}
		if k == 3 {
			r.a = carry
		}
	}
	r.c = carry
	return r.withSigns(wide)
}

// withSigns is what is reckoned with S, Z and P of what it comes to, its bits counted one by one.
func (r reckoned) withSigns(wide bool) reckoned {
	low, all := 0, 0
	for k := range size(wide) {
		if bit(r.v, k) {
			all++
			if k < 8 {
				low++
			}
		}
	}
	r.p, r.z, r.s = low%2 == 0, all == 0, bit(r.v, size(wide)-1)
	return r
}

// withWrong is what is reckoned with O: whether the number that it should be has no room with its sign.
func (r reckoned) withWrong(n int, wide bool) reckoned {
	half := 1 << (size(wide) - 1)
	r.o = n < -half || n >= half
	return r
}

// count is a question as a number.
func count(is bool) int {
	if is {
		return 1
	}
	return 0
}

// sum and difference are two numbers together, and one without the other one, as they are done by hand.
func sum(a, b uint16, came, wide bool) reckoned {
	r := reckon(a, b, came, wide, func(x, y, in bool) (bool, bool) {
		n := count(x) + count(y) + count(in)
		return n%2 == 1, n >= 2
	})
	many := size(wide)
	return r.withWrong(signed(a, many)+signed(b, many)+count(came), wide)
}

func difference(a, b uint16, came, wide bool) reckoned {
	r := reckon(a, b, came, wide, func(x, y, in bool) (bool, bool) {
		n := count(x) - count(y) - count(in)
		return n%2 != 0, n < 0
	})
	many := size(wide)
	return r.withWrong(signed(a, many)-signed(b, many)-count(came), wide)
}

// together is two numbers bit by bit, where nothing goes from one bit to another.
func together(a, b uint16, wide bool, rule func(x, y bool) bool) reckoned {
	return reckon(a, b, false, wide, func(x, y, _ bool) (bool, bool) { return rule(x, y), false })
}

// wanted is what should come of a name of two numbers.
func wanted(name int, a, b uint16, carry, wide bool) reckoned {
	switch name {
	case api.ADD:
		return sum(a, b, false, wide)
	case api.ADC:
		return sum(a, b, carry, wide)
	case api.SUB, api.CMP:
		return difference(a, b, false, wide)
	case api.SBB:
		return difference(a, b, carry, wide)
	case api.OR:
		return together(a, b, wide, func(x, y bool) bool { return x || y })
	case api.AND, api.TEST:
		return together(a, b, wide, func(x, y bool) bool { return x && y })
	}
	return together(a, b, wide, func(x, y bool) bool { return x != y })
}

// checkDo holds Do of two numbers against what is wanted of those (of bytes: without what stands above).
func checkDo(t *testing.T, name int, a, b uint16, carry, wide bool, want reckoned) {
	t.Helper()
	v, f, ok := Do(name, a, b, carry, wide)
	if v != want.v || f != want.flags() || !ok {
		t.Fatalf("Do(%d, %#x, %#x, %v, %v) = %#x, %#x, %v, want %#x, %#x", name, a, b, carry, wide, v, f, ok, want.v, want.flags())
	}
}

func TestNumbersOfNamesAndFlags(t *testing.T) {
	// The model's flags are written as numbers: these are the api's.
	all := reckoned{c: true, p: true, a: true, z: true, s: true, o: true}
	if all.flags() != api.FlagsSum {
		t.Errorf("all flags are %#x, want %#x", all.flags(), api.FlagsSum)
	}
	if f := (reckoned{c: true}).flags(); f != api.FlagC {
		t.Errorf("C is %#x", f)
	}
}

func TestCut(t *testing.T) {
	for n := range 1 << 16 {
		v := uint16(n)
		if got := Cut(v, true); got != v {
			t.Errorf("Cut(%#x, true) = %#x", v, got)
		}
		if got := Cut(v, false); int(got) != n%256 {
			t.Errorf("Cut(%#x, false) = %#x", v, got)
		}
	}
}

func TestSigns(t *testing.T) {
	for n := range 1 << 16 {
		for _, wide := range both() {
			v := uint16(n)
			want := reckoned{v: v}.withSigns(wide).flags()
			if got := Signs(v, wide); got != want {
				t.Errorf("Signs(%#x, %v) = %#x, want %#x", v, wide, got, want)
			}
		}
	}
}

func TestSignsAtEdges(t *testing.T) {
	for _, c := range []struct {
		v    uint16
		wide bool
		want uint16
	}{
		{0, false, api.FlagZ | api.FlagP},
		{0, true, api.FlagZ | api.FlagP},
		{1, false, 0},
		{3, false, api.FlagP},
		{0x7f, false, 0},
		{0x80, false, api.FlagS},
		{0x80, true, 0},
		{0xff, false, api.FlagS | api.FlagP},
		{0xff, true, api.FlagP},
		{0x100, false, api.FlagZ | api.FlagP},
		{0x100, true, api.FlagP},
		{0x8000, false, api.FlagZ | api.FlagP},
		{0x8000, true, api.FlagS | api.FlagP},
		{0x8001, true, api.FlagS},
		{0x7fff, true, api.FlagP},
		{0xfffe, true, api.FlagS},
		{0xffff, true, api.FlagS | api.FlagP},
	} {
		if got := Signs(c.v, c.wide); got != c.want {
			t.Errorf("Signs(%#x, %v) = %#x, want %#x", c.v, c.wide, got, c.want)
		}
	}
}

func TestDoOfAllBytes(t *testing.T) {
	for _, name := range twoNames() {
		for n := range 1 << 16 {
			for _, carry := range both() {
				a, b := uint16(n>>8), uint16(n&0xff)
				checkDo(t, name, a, b, carry, false, wanted(name, a, b, carry, false))
			}
		}
	}
}

func TestDoOfBytesLeavesOutWhatStandsAbove(t *testing.T) {
	for _, name := range twoNames() {
		for _, a := range edges() {
			for _, b := range edges() {
				for _, carry := range both() {
					checkAbove(t, name, a&0xff, b&0xff, carry)
				}
			}
		}
	}
}

// checkAbove does the same to two bytes whatever stands above them.
func checkAbove(t *testing.T, name int, a, b uint16, carry bool) {
	t.Helper()
	want := wanted(name, a, b, carry, false)
	for _, x := range uppers() {
		for _, y := range uppers() {
			checkDo(t, name, a|x, b|y, carry, false, want)
		}
	}
}

func TestDoOfWords(t *testing.T) {
	for _, name := range twoNames() {
		for _, a := range numbers() {
			for _, b := range numbers() {
				for _, carry := range both() {
					checkDo(t, name, a, b, carry, true, wanted(name, a, b, carry, true))
				}
			}
		}
	}
}

func TestDoByHand(t *testing.T) {
	const c, p, a, z, s, o = api.FlagC, api.FlagP, api.FlagA, api.FlagZ, api.FlagS, api.FlagO
	for _, h := range []struct {
		name  int
		a, b  uint16
		carry bool
		wide  bool
		v, f  uint16
	}{
		{api.ADD, 127, 1, false, false, 128, s | o | a},
		{api.ADD, 127, 1, true, false, 128, s | o | a},
		{api.ADD, 0xff, 1, false, false, 0, c | p | a | z},
		{api.ADD, 0x80, 0x80, false, false, 0, c | p | z | o},
		{api.ADD, 0xff, 1, false, true, 0x100, p | a},
		{api.ADD, 0x7fff, 1, false, true, 0x8000, s | o | a | p},
		{api.ADD, 0xffff, 0xffff, false, true, 0xfffe, c | a | s},
		{api.ADC, 0xff, 0xff, true, false, 0xff, c | p | a | s},
		{api.ADC, 0xff, 0, true, false, 0, c | p | a | z},
		{api.ADC, 0xffff, 0xffff, true, true, 0xffff, c | p | a | s},
		{api.ADC, 0x7fff, 0, true, true, 0x8000, p | a | s | o},
		{api.ADC, 1, 2, false, true, 3, p},
		{api.SUB, 0, 1, false, false, 0xff, c | p | a | s},
		{api.SUB, 0, 1, true, false, 0xff, c | p | a | s},
		{api.SUB, 0x80, 1, false, false, 0x7f, a | o},
		{api.SUB, 0, 0x80, false, false, 0x80, c | s | o},
		{api.SUB, 0, 1, false, true, 0xffff, c | p | a | s},
		{api.SUB, 0x8000, 1, false, true, 0x7fff, p | a | o},
		{api.SUB, 0x100, 1, false, true, 0xff, p | a},
		{api.SBB, 0, 0xff, true, false, 0, c | p | a | z},
		{api.SBB, 0, 0xffff, true, true, 0, c | p | a | z},
		{api.SBB, 5, 5, true, true, 0xffff, c | p | a | s},
		{api.SBB, 5, 5, false, true, 0, p | z},
		{api.CMP, 7, 7, true, true, 0, p | z},
		{api.CMP, 3, 5, false, false, 0xfe, c | a | s},
		{api.OR, 0x80, 1, true, false, 0x81, p | s},
		{api.AND, 0xf0, 0x0f, true, false, 0, p | z},
		{api.TEST, 0xff00, 0x8001, true, true, 0x8000, p | s},
		{api.XOR, 0xffff, 0xffff, true, true, 0, p | z},
		{api.XOR, 0xff0f, 0x000e, true, false, 1, 0},
	} {
		v, f, ok := Do(h.name, h.a, h.b, h.carry, h.wide)
		if v != h.v || f != h.f || !ok {
			t.Errorf("Do(%d, %#x, %#x, %v, %v) = %#x, %#x, %v, want %#x, %#x", h.name, h.a, h.b, h.carry, h.wide, v, f, ok, h.v, h.f)
		}
	}
}

func TestNamesThatAreTheSame(t *testing.T) {
	for _, pair := range [][2]int{{api.CMP, api.SUB}, {api.TEST, api.AND}} {
		for _, a := range numbers() {
			for _, b := range numbers() {
				for _, wide := range both() {
					checkSame(t, pair, a, b, wide)
				}
			}
		}
	}
}

// checkSame holds one name against another one, with a carry handed in that doesn't count and without.
func checkSame(t *testing.T, pair [2]int, a, b uint16, wide bool) {
	t.Helper()
	v, f, ok := Do(pair[1], a, b, false, wide)
	for _, carry := range both() {
		for _, name := range pair {
			if gotV, gotF, gotOK := Do(name, a, b, carry, wide); gotV != v || gotF != f || !gotOK || !ok {
				t.Fatalf("Do(%d, %#x, %#x, %v, %v) = %#x, %#x, %v, want %#x, %#x", name, a, b, carry, wide, gotV, gotF, gotOK, v, f)
			}
		}
	}
}

func TestCarryCountsWhereItIsAskedFor(t *testing.T) {
	for _, name := range twoNames() {
		asked := name == api.ADC || name == api.SBB
		for _, wide := range both() {
			v, f, _ := Do(name, 0x2211, 0x1122, false, wide)
			w, g, _ := Do(name, 0x2211, 0x1122, true, wide)
			if differ := v != w || f != g; differ != asked {
				t.Errorf("name %d, wide %v: with a carry %#x, %#x, without %#x, %#x", name, wide, w, g, v, f)
			}
		}
	}
}

func TestDoOfOtherNames(t *testing.T) {
	for _, name := range otherNames(twoNames()) {
		for _, carry := range both() {
			for _, wide := range both() {
				if v, f, ok := Do(name, 0xfff7, 0x7ff9, carry, wide); v != 0 || f != 0 || ok {
					t.Errorf("Do(%d, .., %v, %v) = %#x, %#x, %v", name, carry, wide, v, f, ok)
				}
			}
		}
	}
}

// oneWanted is what should come of a name of one number, and the flags that are new by it; the others of FlagsSum stay.
func oneWanted(name int, a uint16, wide bool) (reckoned, uint16) {
	const all = api.FlagC | api.FlagP | api.FlagA | api.FlagZ | api.FlagS | api.FlagO
	switch name {
	case api.INC:
		return sum(a, 1, false, wide), all &^ api.FlagC
	case api.DEC:
		return difference(a, 1, false, wide), all &^ api.FlagC
	case api.NEG:
		return difference(0, a, false, wide), all
	}
	return together(a, 0, wide, func(x, _ bool) bool { return !x }), 0
}

// befores are flags that were: none, all, each alone and all but it, with bits that are none of FlagsSum and without.
func befores() []uint16 {
	l := []uint16{0, 0xffff, api.FlagsSum, 0xffff &^ api.FlagsSum, api.Flags, api.Fixed, api.FlagT | api.FlagI | api.FlagD}
	for k := range 16 {
		l = append(l, 1<<k, 0xffff&^(1<<k), api.FlagsSum&^(1<<k))
	}
	return l
}

// checkOne holds One of a number, with each of the flags that were, against what is wanted.
func checkOne(t *testing.T, name int, a uint16, wide bool) {
	t.Helper()
	want, fresh := oneWanted(name, a, wide)
	for _, was := range befores() {
		flags := want.flags()&fresh | was&api.FlagsSum&^fresh
		v, f, ok := One(name, a, was, wide)
		if v != want.v || f != flags || !ok {
			t.Fatalf("One(%d, %#x, %#x, %v) = %#x, %#x, %v, want %#x, %#x", name, a, was, wide, v, f, ok, want.v, flags)
		}
	}
}

func TestOneOfAllBytes(t *testing.T) {
	for _, name := range oneNames() {
		for b := range uint16(256) {
			for _, above := range uppers() {
				checkOne(t, name, b|above, false)
			}
		}
	}
}

func TestOneOfWords(t *testing.T) {
	for _, name := range oneNames() {
		for _, a := range numbers() {
			checkOne(t, name, a, true)
		}
	}
}

func TestOneByHand(t *testing.T) {
	const c, p, a, z, s, o = api.FlagC, api.FlagP, api.FlagA, api.FlagZ, api.FlagS, api.FlagO
	for _, h := range []struct {
		name   int
		a, was uint16
		wide   bool
		v, f   uint16
	}{
		{api.INC, 0xff, 0, false, 0, p | a | z},
		{api.INC, 0xff, c, false, 0, c | p | a | z},
		{api.INC, 0xff, 0, true, 0x100, p | a},
		{api.INC, 0x7f, p | z, false, 0x80, a | s | o},
		{api.INC, 0x7fff, 0, true, 0x8000, p | a | s | o},
		{api.INC, 0xffff, 0, true, 0, p | a | z},
		{api.INC, 0xffff, 0xffff, true, 0, c | p | a | z},
		{api.INC, 0x01ff, 0, false, 0, p | a | z},
		{api.DEC, 0, 0, false, 0xff, p | a | s},
		{api.DEC, 0, c, false, 0xff, c | p | a | s},
		{api.DEC, 0, 0, true, 0xffff, p | a | s},
		{api.DEC, 0x80, 0, false, 0x7f, a | o},
		{api.DEC, 0x8000, c, true, 0x7fff, c | p | a | o},
		{api.DEC, 1, s | o, true, 0, p | z},
		{api.NOT, 0, 0, false, 0xff, 0},
		{api.NOT, 0, 0xffff, true, 0xffff, api.FlagsSum},
		{api.NOT, 0xffff, c | z, true, 0, c | z},
		{api.NOT, 0x1234, api.FlagD | api.FlagI | api.FlagT | s, false, 0xcb, s},
		{api.NEG, 0, 0xffff, false, 0, p | z},
		{api.NEG, 0, c, true, 0, p | z},
		{api.NEG, 0xff00, c, false, 0, p | z},
		{api.NEG, 1, 0, false, 0xff, c | p | a | s},
		{api.NEG, 1, 0, true, 0xffff, c | p | a | s},
		{api.NEG, 0x80, 0, false, 0x80, c | s | o},
		{api.NEG, 0x80, 0, true, 0xff80, c | s},
		{api.NEG, 0x8000, 0, true, 0x8000, c | p | s | o},
		{api.NEG, 0xffff, 0, true, 1, c | a},
	} {
		v, f, ok := One(h.name, h.a, h.was, h.wide)
		if v != h.v || f != h.f || !ok {
			t.Errorf("One(%d, %#x, %#x, %v) = %#x, %#x, %v, want %#x, %#x", h.name, h.a, h.was, h.wide, v, f, ok, h.v, h.f)
		}
	}
}

func TestOneOfOtherNames(t *testing.T) {
	for _, name := range otherNames(oneNames()) {
		for _, was := range befores() {
			for _, wide := range both() {
				if v, f, ok := One(name, 0xfff7, was, wide); v != 0 || f != 0 || ok {
					t.Errorf("One(%d, .., %#x, %v) = %#x, %#x, %v", name, was, wide, v, f, ok)
				}
			}
		}
	}
}
