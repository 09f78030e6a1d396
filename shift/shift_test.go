package shift

import (
	"math"
	"testing"

	"hansom/api"
)

// roundNames are the names of what goes round, outNames those of what doesn't come in again, and names are all.
func roundNames() []int { return []int{api.ROL, api.ROR, api.RCL, api.RCR} }
func outNames() []int   { return []int{api.SHL, api.SHR, api.SAR} }
func names() []int      { return append(roundNames(), outNames()...) }

// otherNames are all numbers near the names, and some far from them.
func otherNames() []int {
	all := []int{
		math.MinInt, math.MinInt32, -1 << 16, -api.ROL, -api.SAR,
		256 + api.ROL, 256 + api.SAR, 1<<16 + api.ROL, 1<<16 + api.SAR, 1<<32 + api.SHL, math.MaxInt32, math.MaxInt,
	}
	for name := -api.Names - 5; name <= api.Names+5; name++ {
		all = append(all, name)
	}
	is := map[int]int{}
	for _, name := range names() {
		is[name] = 1
	}
	var others []int
	for _, name := range all {
		if is[name] == 0 {
			others = append(others, name)
		}
	}
	return others
}

// both are the two values of a question.
func both() [2]bool { return [2]bool{false, true} }

// edges are words at the edges of bytes, words and their signs, and such as have bits at both ends.
func edges() []uint16 {
	return []uint16{
		0, 1, 2, 3, 0x3f, 0x40, 0x41, 0x7e, 0x7f, 0x80, 0x81, 0xbf, 0xc0, 0xfe, 0xff,
		0x100, 0x101, 0x17f, 0x180, 0x1ff, 0x200, 0x3fff, 0x4000, 0x4001, 0x5555, 0x7f00, 0x7f7f, 0x7f80, 0x7ffe, 0x7fff,
		0x8000, 0x8001, 0x807f, 0x8080, 0xaaaa, 0xbfff, 0xc000, 0xff00, 0xff7f, 0xff80, 0xfffe, 0xffff,
	}
}

// drawn are so many words that are drawn by a rule.
func drawn(many int) []uint16 {
	l := make([]uint16, many)
	state := uint32(97531)
	for i := range l {
		state = state*1664525 + 1013904223
		l[i] = uint16(state >> 16)
	}
	return l
}

// words are the edges, and some that are drawn.
func words() []uint16 { return append(edges(), drawn(200)...) }

// uppers are what may stand above a byte that counts.
func uppers() []uint16 { return []uint16{0, 0x0100, 0x7f00, 0x8000, 0xa500, 0xff00} }

// fewSteps tells whether a number of steps is one of those that are asked of each number.
func fewSteps(n int) bool { return n <= 40 || n == 255 }

// anySteps takes each number of steps.
func anySteps(int) bool { return true }

// befores are flags that were: none, all, each alone and all but it, with bits that are none of FlagsSum and without.
func befores() []uint16 {
	l := []uint16{0, 0xffff, api.FlagsSum, 0xffff &^ api.FlagsSum, api.Flags, api.Fixed, api.FlagT | api.FlagI | api.FlagD}
	for k := range 16 {
		l = append(l, 1<<k, 0xffff&^(1<<k), api.FlagsSum&^(1<<k))
	}
	return l
}

// fewBefores are flags that were with C and without, and all other bits alike.
func fewBefores() []uint16 { return []uint16{0, 1, 0xfffe, 0xffff} }

// row is a number's bits one by one, the lowest first, and what C and O are behind the last step.
type row struct {
	bits  []bool
	c, o  bool
	steps int
}

// rowOf is a number's bits, and C of the flags that were.
func rowOf(v uint16, was uint16, wide bool) *row {
	many := 8
	if wide {
		many = 16
	}
	r := &row{c: was&1 == 1}
	for k := range many {
		r.bits = append(r.bits, v>>k&1 == 1)
	}
	return r
}

// step does one step of a name, by the chapter's words.
func (r *row) step(name int) {
	top := len(r.bits) - 1
	lowest, sign := r.bits[0], r.bits[top]
	switch name {
	case api.ROL:
		r.goUp(sign)
	case api.RCL:
		r.goUp(r.c)
	case api.SHL:
		r.goUp(false)
	case api.ROR:
		r.goDown(lowest)
	case api.RCR:
		r.goDown(r.c)
	case api.SHR:
		r.goDown(false)
	case api.SAR:
		r.goDown(sign)
	}
	r.o = r.bits[top] != sign
	r.steps++
}

// goUp moves each bit to the next place, and one in at the lowest; goDown, the other way. C is what went out.
func (r *row) goUp(in bool) {
	for k := range r.bits {
		r.bits[k], in = in, r.bits[k]
	}
	r.c = in
}

func (r *row) goDown(in bool) {
	for k := len(r.bits) - 1; k >= 0; k-- {
		r.bits[k], in = in, r.bits[k]
	}
	r.c = in
}

// number is the bits as a number.
func (r *row) number() uint16 {
	v := uint16(0)
	for k, on := range r.bits {
		if on {
			v += 1 << k
		}
	}
	return v
}

// signs is S, Z and P of the bits, that are counted one by one.
func (r *row) signs() (s, z, p bool) {
	low, all := 0, 0
	for k, on := range r.bits {
		if on {
			all++
			if k < 8 {
				low++
			}
		}
	}
	return r.bits[len(r.bits)-1], all == 0, low%2 == 0
}

// flags is what the flags should be behind the steps that were done: each bit by its number.
func (r *row) flags(name int, was uint16) uint16 {
	if r.steps == 0 {
		return was & (1 | 4 | 16 | 64 | 128 | 2048)
	}
	f := uint16(0)
	put := func(bit uint16, on bool) {
		if on {
			f |= bit
		}
	}
	put(1, r.c)
	put(2048, r.o)
	switch name {
	case api.SHL, api.SHR, api.SAR:
		s, z, p := r.signs()
		put(4, p)
		put(64, z)
		put(128, s)
	default:
		for _, bit := range []uint16{4, 16, 64, 128} {
			put(bit, was&bit != 0)
		}
	}
	return f
}

// check holds Do by all numbers of steps that are asked for against the bits, one step after another.
func check(t *testing.T, name int, v, was uint16, wide bool, asked func(n int) bool) {
	t.Helper()
	r := rowOf(v, was, wide)
	for n := range 256 {
		if n > 0 {
			r.step(name)
		}
		if !asked(n) {
			continue
		}
		got, f, ok := Do(name, v, byte(n), was, wide)
		if got != r.number() || f != r.flags(name, was) || !ok {
			t.Fatalf("Do(%d, %#x, %d, %#x, %v) = %#x, %#x, %v, want %#x, %#x", name, v, n, was, wide, got, f, ok, r.number(), r.flags(name, was))
		}
	}
}

func TestNumbersOfFlags(t *testing.T) {
	// The model's flags are written as numbers: these are the api's.
	if api.FlagC != 1 || api.FlagP != 4 || api.FlagA != 16 || api.FlagZ != 64 || api.FlagS != 128 || api.FlagO != 2048 {
		t.Error("the flags have other numbers")
	}
	if api.FlagsSum != 1|4|16|64|128|2048 {
		t.Errorf("FlagsSum is %#x", api.FlagsSum)
	}
}

func TestAllBytes(t *testing.T) {
	for _, name := range names() {
		for v := range uint16(256) {
			for _, was := range fewBefores() {
				check(t, name, v, was, false, fewSteps)
			}
		}
	}
}

func TestWords(t *testing.T) {
	for _, name := range names() {
		for _, v := range words() {
			for _, was := range fewBefores() {
				check(t, name, v, was, true, fewSteps)
			}
		}
	}
}

func TestEachNumberOfSteps(t *testing.T) {
	for _, name := range names() {
		for _, v := range edges() {
			for _, wide := range both() {
				for _, was := range fewBefores() {
					check(t, name, v, was, wide, anySteps)
				}
			}
		}
	}
}

func TestEachFlagThatWas(t *testing.T) {
	for _, name := range names() {
		for _, v := range edges() {
			for _, wide := range both() {
				for _, was := range befores() {
					check(t, name, v, was, wide, fewSteps)
				}
			}
		}
	}
}

func TestBytesLeaveOutWhatStandsAbove(t *testing.T) {
	for _, name := range names() {
		for v := range uint16(256) {
			for _, above := range uppers() {
				for _, was := range fewBefores() {
					checkAbove(t, name, v, above, was)
				}
			}
		}
	}
}

// checkAbove does the same to a byte whatever stands above it, and has nothing above it come out.
func checkAbove(t *testing.T, name int, v, above, was uint16) {
	t.Helper()
	for n := range 20 {
		want, flags, _ := Do(name, v, byte(n), was, false)
		got, f, ok := Do(name, v|above, byte(n), was, false)
		if got != want || f != flags || !ok || got > 0xff {
			t.Fatalf("Do(%d, %#x, %d, %#x, false) = %#x, %#x, %v, want %#x, %#x", name, v|above, n, was, got, f, ok, want, flags)
		}
	}
}

func TestOfNoStep(t *testing.T) {
	for _, name := range names() {
		for _, v := range words() {
			for _, was := range befores() {
				if got, f, ok := Do(name, v, 0, was, true); got != v || f != was&api.FlagsSum || !ok {
					t.Fatalf("Do(%d, %#x, 0, %#x, true) = %#x, %#x, %v", name, v, was, got, f, ok)
				}
				if got, f, ok := Do(name, v, 0, was, false); got != v%256 || f != was&api.FlagsSum || !ok {
					t.Fatalf("Do(%d, %#x, 0, %#x, false) = %#x, %#x, %v", name, v, was, got, f, ok)
				}
			}
		}
	}
}

func TestByHand(t *testing.T) {
	const c, p, a, z, s, o = api.FlagC, api.FlagP, api.FlagA, api.FlagZ, api.FlagS, api.FlagO
	for _, h := range []struct {
		name int
		v    uint16
		n    byte
		was  uint16
		wide bool
		to   uint16
		f    uint16
	}{
		{api.SHL, 128, 1, 0, false, 0, c | z | p | o},
		{api.SHL, 128, 1, 0, true, 256, p},
		{api.SHL, 0x40, 1, c | a, false, 0x80, s | o},
		{api.SHL, 0xc0, 1, 0, false, 0x80, c | s},
		{api.SHL, 0x4000, 1, 0xffff, true, 0x8000, s | p | o},
		{api.SHL, 1, 8, 0, false, 0, c | z | p | o},
		{api.SHL, 1, 9, c | s | o, false, 0, z | p},
		{api.SHL, 1, 16, 0, true, 0, c | z | p | o},
		{api.SHL, 0xffff, 17, 0, true, 0, z | p},
		{api.SHL, 0xff, 32, 0, false, 0, z | p},
		{api.SHL, 0xffff, 255, 0xffff, true, 0, z | p},
		{api.SHR, 0x80, 1, a, false, 0x40, o},
		{api.SHR, 1, 1, 0, false, 0, c | z | p},
		{api.SHR, 0x81, 2, 0, false, 0x20, 0},
		{api.SHR, 0x8001, 1, 0, true, 0x4000, c | p | o},
		{api.SHR, 0x100, 1, 0, true, 0x80, 0},
		{api.SHR, 0xff00, 1, c | o, false, 0, z | p},
		{api.SHR, 0x8000, 16, 0, true, 0, c | z | p},
		{api.SHR, 0x8000, 17, 0, true, 0, z | p},
		{api.SAR, 0x80, 1, a | o, false, 0xc0, s | p},
		{api.SAR, 0x80, 7, 0, false, 0xff, s | p},
		{api.SAR, 0x80, 8, 0, false, 0xff, c | s | p},
		{api.SAR, 0x80, 255, 0, false, 0xff, c | s | p},
		{api.SAR, 0x7f, 7, s | o, false, 0, c | z | p},
		{api.SAR, 0x7f, 8, s | o, false, 0, z | p},
		{api.SAR, 0x80, 1, 0, true, 0x40, 0},
		{api.SAR, 0x8000, 15, 0, true, 0xffff, s | p},
		{api.SAR, 0x8000, 16, 0, true, 0xffff, c | s | p},
		{api.ROL, 0x80, 1, 0, false, 1, c | o},
		{api.ROL, 0x80, 1, p | a | z | s, false, 1, c | p | a | z | s | o},
		{api.ROL, 0x40, 1, c, false, 0x80, o},
		{api.ROL, 0x81, 8, 0, false, 0x81, c},
		{api.ROL, 0x80, 8, c, false, 0x80, o},
		{api.ROL, 0xff, 1, 0, false, 0xff, c},
		{api.ROL, 0x8000, 1, 0, true, 1, c | o},
		{api.ROL, 0x8000, 16, z, true, 0x8000, z | o},
		{api.ROL, 0x1234, 4, 0, true, 0x2341, c | o},
		{api.ROR, 1, 1, 0, false, 0x80, c | o},
		{api.ROR, 1, 1, 0, true, 0x8000, c | o},
		{api.ROR, 2, 1, c | s, false, 1, s},
		{api.ROR, 0x1234, 4, 0, true, 0x4123, o},
		{api.ROR, 0x12, 12, c | p, false, 0x21, p},
		{api.RCL, 0, 1, c, false, 1, 0},
		{api.RCL, 0x80, 1, 0, false, 0, c | o},
		{api.RCL, 0x80, 2, 0, false, 1, 0},
		{api.RCL, 0x80, 9, c | z, false, 0x80, c | z},
		{api.RCL, 0xff80, 9, 0, false, 0x80, o},
		{api.RCL, 0x8000, 17, c, true, 0x8000, c},
		{api.RCL, 0x5a5a, 255, c | a, true, 0x5a5a, c | a | o},
		{api.RCR, 0, 1, c, false, 0x80, o},
		{api.RCR, 1, 1, 0, false, 0, c},
		{api.RCR, 1, 2, 0, false, 0x80, o},
		{api.RCR, 1, 9, p, false, 1, p},
		{api.RCR, 0, 1, c, true, 0x8000, o},
		{api.RCR, 1, 16, 0, true, 2, 0},
		{api.RCR, 1, 17, 0, true, 1, 0},
	} {
		v, f, ok := Do(h.name, h.v, h.n, h.was, h.wide)
		if v != h.to || f != h.f || !ok {
			t.Errorf("Do(%d, %#x, %d, %#x, %v) = %#x, %#x, %v, want %#x, %#x", h.name, h.v, h.n, h.was, h.wide, v, f, ok, h.to, h.f)
		}
	}
}

func TestWhatGoesRoundComesBack(t *testing.T) {
	// With C as one bit more a number is itself again one step later.
	for _, c := range []struct{ name, bytes, words int }{
		{api.ROL, 8, 16}, {api.ROR, 8, 16}, {api.RCL, 9, 17}, {api.RCR, 9, 17},
	} {
		for _, v := range words() {
			for _, carry := range []uint16{0, api.FlagC} {
				for rounds := 1; rounds <= 255/17; rounds++ {
					if got, _, _ := Do(c.name, v, byte(rounds*c.words), carry, true); got != v {
						t.Fatalf("%d rounds of %d of the word %#x: %#x", rounds, c.name, v, got)
					}
					if got, _, _ := Do(c.name, v, byte(rounds*c.bytes), carry, false); got != v&0xff {
						t.Fatalf("%d rounds of %d of the byte %#x: %#x", rounds, c.name, v&0xff, got)
					}
				}
			}
		}
	}
}

func TestStepsOneByOneAreThoseAtOnce(t *testing.T) {
	for _, name := range names() {
		for _, v := range words() {
			for _, wide := range both() {
				one, f := v, uint16(0xffff)
				for n := 1; n <= 40; n++ {
					one, f, _ = Do(name, one, 1, f, wide)
					got, flags, ok := Do(name, v, byte(n), 0xffff, wide)
					if got != one || flags != f || !ok {
						t.Fatalf("Do(%d, %#x, %d, 0xffff, %v) = %#x, %#x, %v, want %#x, %#x", name, v, n, wide, got, flags, ok, one, f)
					}
				}
			}
		}
	}
}

func TestOtherNames(t *testing.T) {
	for _, name := range otherNames() {
		for _, n := range []byte{0, 1, 2, 8, 16, 255} {
			for _, was := range fewBefores() {
				for _, wide := range both() {
					if v, f, ok := Do(name, 0xa5c3, n, was, wide); v != 0 || f != 0 || ok {
						t.Errorf("Do(%d, 0xa5c3, %d, %#x, %v) = %#x, %#x, %v", name, n, was, wide, v, f, ok)
					}
				}
			}
		}
	}
}
