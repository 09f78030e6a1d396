package strop

import (
	"math"
	"slices"
	"testing"

	"hansom/api"
	"hansom/core"
	"hansom/mem"
	"hansom/world"
)

// Where the segments of the tests' program are: its whole is 2^18 bytes from paragraph 1000 (hex) on.
const (
	codeSeg  = 0x1000
	extraSeg = 0x2000
	stackSeg = 0x3000
	dataSeg  = 0x4000

	programPara = 0x1000
	programSize = 0x40000
)

// text is what a text's instruction does, as the chapter tells it.
type text struct {
	name     int
	wide     bool
	fromSI   bool // it takes what is at SI, else what AL or AX has, ..
	toDI     bool // .. and lays it at DI, ..
	compares bool // .. or holds it against what is there; else it goes to AL or AX
}

func texts() []text {
	return []text{
		{name: api.MOVSB, fromSI: true, toDI: true},
		{name: api.MOVSW, fromSI: true, toDI: true, wide: true},
		{name: api.CMPSB, fromSI: true, compares: true},
		{name: api.CMPSW, fromSI: true, compares: true, wide: true},
		{name: api.STOSB, toDI: true},
		{name: api.STOSW, toDI: true, wide: true},
		{name: api.LODSB, fromSI: true},
		{name: api.LODSW, fromSI: true, wide: true},
		{name: api.SCASB, compares: true},
		{name: api.SCASW, compares: true, wide: true},
	}
}

func (x text) usesDI() bool { return x.toDI || x.compares }

// step is how far SI and DI go on.
func (x text) step(back bool) uint16 {
	step := uint16(1)
	if x.wide {
		step = 2
	}
	if back {
		return -step
	}
	return step
}

// noNames are numbers that are none of the ten names.
func noNames() []int {
	names := []int{
		math.MinInt, math.MinInt32, -1 << 16, -api.MOVSB, -1, 0, api.Names + 1, 255, 256 + api.MOVSB, 1<<16 + api.STOSB,
		1<<32 + api.LODSW, math.MaxInt32, math.MaxInt,
	}
	for name := 1; name <= api.Names; name++ {
		if name < api.MOVSB || name > api.SCASW {
			names = append(names, name)
		}
	}
	return names
}

func number(v uint16) api.Val    { return api.Val{V: v} }
func paragraph(v uint16) api.Val { return api.Val{V: v, T: true} }

// over is a machine with a memory that there is already; registers are all unlike and plain, the segments' are the program's.
func over(memory *mem.Memory) *core.Machine {
	m := core.New(memory, world.New([]uint16{7, 8}), programPara, programSize)
	m.R = somewhere()
	return m
}

func fresh() *core.Machine { return over(mem.New()) }

func somewhere() api.Regs {
	return api.Regs{
		G: [8]api.Val{
			number(0x1a01), number(0x2b02), number(0x3c03), number(0x4d04),
			number(0x0800), number(0x5e05), number(0x6f06), number(0x7007),
		},
		S:  [4]api.Val{paragraph(extraSeg), paragraph(codeSeg), paragraph(stackSeg), paragraph(dataSeg)},
		IP: 0x0123,
		F:  api.FlagI,
	}
}

// mixed is a memory whose bytes are drawn by a rule, so that those of any two near places are unlike mostly.
func mixed() *mem.Memory {
	memory := mem.New()
	bytes := make([]byte, 1<<20)
	draw := drawer(1)
	for at := range bytes {
		bytes[at] = byte(draw())
	}
	memory.Load(0, bytes)
	return memory
}

// drawer draws words by a rule.
func drawer(seed uint32) func() uint16 {
	return func() uint16 {
		seed = seed*1664525 + 1013904223
		return uint16(seed >> 16)
	}
}

func wantState(t *testing.T, m *core.Machine, want int) {
	t.Helper()
	if got := m.State(); got != want {
		t.Fatalf("the state is %d, want %d", got, want)
	}
}

// wantRuns holds a machine's registers against others, and its events against none.
func wantRuns(t *testing.T, m *core.Machine, want api.Regs) {
	t.Helper()
	wantState(t, m, api.Runs)
	if m.R != want {
		t.Fatalf("the registers are\n%+v, want\n%+v", m.R, want)
	}
	if got := m.W.Events(); len(got) != 0 || m.W.Used() != 0 {
		t.Fatalf("the world knows of %+v", got)
	}
}

// kept is all bytes of a machine's memory.
func kept(m *core.Machine) []byte { return m.M.Bytes(0, 1<<20) }

// wantBytes holds all of a memory against what it is to be.
func wantBytes(t *testing.T, m *core.Machine, want []byte) {
	t.Helper()
	now := kept(m)
	for at, b := range want {
		if now[at] != b {
			t.Fatalf("at %05x is %02x, want %02x", at, now[at], b)
		}
	}
}

func wantWord(t *testing.T, m *core.Machine, seg, off uint16, want api.Val) {
	t.Helper()
	if got, whole := m.M.Word(seg, off); got != want || !whole {
		t.Fatalf("at %04x:%04x is %v, %v, want %v", seg, off, got, whole, want)
	}
}

// place is where an offset of a segment is in the tests' program.
func place(seg, off uint16) int { return int(seg)*16 + int(off) }

func TestWide(t *testing.T) {
	wide := []int{api.MOVSW, api.CMPSW, api.STOSW, api.LODSW, api.SCASW}
	for name := -300; name <= 300; name++ {
		if Wide(name) != slices.Contains(wide, name) {
			t.Errorf("Wide(%d) is %v", name, Wide(name))
		}
	}
	for _, name := range noNames() {
		if Wide(name) {
			t.Errorf("%d goes by words", name)
		}
	}
	for _, x := range texts() {
		if Wide(x.name) != x.wide {
			t.Errorf("Wide(%d) is %v", x.name, Wide(x.name))
		}
	}
}

// By hand: one of each, forwards.
func TestOnceByHand(t *testing.T) {
	set := func() *core.Machine {
		m := fresh()
		m.R.G[api.AX], m.R.G[api.SI], m.R.G[api.DI] = number(0x1234), number(0x10), number(0x20)
		m.M.SetWord(dataSeg, 0x10, number(0xbbaa))
		m.M.SetWord(extraSeg, 0x20, number(0xddcc))
		return m
	}
	cases := []struct {
		name       int
		si, di, ax uint16
		there      uint16
		flags      uint16
	}{
		{api.MOVSB, 0x11, 0x21, 0x1234, 0xddaa, 0},
		{api.MOVSW, 0x12, 0x22, 0x1234, 0xbbaa, 0},
		// AA without CC is DE.
		{api.CMPSB, 0x11, 0x21, 0x1234, 0xddcc, api.FlagC | api.FlagA | api.FlagS | api.FlagP},
		// BBAA without DDCC is DDDE.
		{api.CMPSW, 0x12, 0x22, 0x1234, 0xddcc, api.FlagC | api.FlagA | api.FlagS | api.FlagP},
		{api.STOSB, 0x10, 0x21, 0x1234, 0xdd34, 0},
		{api.STOSW, 0x10, 0x22, 0x1234, 0x1234, 0},
		{api.LODSB, 0x11, 0x20, 0x12aa, 0xddcc, 0},
		{api.LODSW, 0x12, 0x20, 0xbbaa, 0xddcc, 0},
		// 34 without CC is 68.
		{api.SCASB, 0x10, 0x21, 0x1234, 0xddcc, api.FlagC | api.FlagA},
		// 1234 without DDCC is 3468.
		{api.SCASW, 0x10, 0x22, 0x1234, 0xddcc, api.FlagC | api.FlagA},
	}
	for _, c := range cases {
		m := set()
		want := m.R
		want.G[api.SI], want.G[api.DI], want.G[api.AX] = number(c.si), number(c.di), number(c.ax)
		want.F = api.FlagI | c.flags
		before := kept(m)
		before[place(extraSeg, 0x20)], before[place(extraSeg, 0x21)] = byte(c.there), byte(c.there>>8)
		Once(m, api.Inst{}, c.name)
		wantRuns(t, m, want)
		wantBytes(t, m, before)
	}
}

// The segment that an instruction's prefix tells; none: DS.
func sourceSegment(seg int) uint16 {
	return []uint16{dataSeg, extraSeg, codeSeg, stackSeg, dataSeg}[seg]
}

// word is a word of bytes: the second one's offset comes round.
func word(bytes []byte, seg, off uint16) uint16 {
	return uint16(bytes[place(seg, off)]) | uint16(bytes[place(seg, off+1)])<<8
}

// reckon tells what registers are behind an instruction, and lays what it writes among the bytes.
func reckon(r api.Regs, bytes []byte, x text, seg int) api.Regs {
	si, di, ax := r.G[api.SI].V, r.G[api.DI].V, r.G[api.AX].V
	v, old := ax, word(bytes, extraSeg, di)
	if x.fromSI {
		v = word(bytes, sourceSegment(seg), si)
		r.G[api.SI].V = si + x.step(r.F&api.FlagD != 0)
	}
	if x.usesDI() {
		r.G[api.DI].V = di + x.step(r.F&api.FlagD != 0)
	}
	if !x.wide {
		v, old = v&0xff, old&0xff
	}
	switch {
	case x.compares:
		r.F = r.F&^api.FlagsSum | reckonFlags(v, old, x.wide)
	case x.toDI:
		bytes[place(extraSeg, di)] = byte(v)
		if x.wide {
			bytes[place(extraSeg, di+1)] = byte(v >> 8)
		}
	case x.wide:
		r.G[api.AX].V = v
	default:
		r.G[api.AX].V = ax&0xff00 | v
	}
	return r
}

// reckonFlags is the flags of a number without another one, each by what it means.
func reckonFlags(a, b uint16, wide bool) uint16 {
	count := 8
	if wide {
		count = 16
	}
	whole, half := 1<<count, 1<<(count-1)
	signed := func(v uint16) int { return (int(v)+half)%whole - half }
	left := (int(a) - int(b) + whole) % whole
	ones := 0
	for k := range 8 {
		ones += left >> k & 1
	}
	apart := signed(a) - signed(b)
	var f uint16
	for _, flag := range []struct {
		bit uint16
		on  bool
	}{
		{api.FlagC, a < b}, {api.FlagA, a&15 < b&15}, {api.FlagZ, a == b}, {api.FlagS, left >= half},
		{api.FlagP, ones%2 == 0}, {api.FlagO, apart < -half || apart >= half},
	} {
		if flag.on {
			f |= flag.bit
		}
	}
	return f
}

// offsets are where SI and DI may be: at a segment's ends, and within.
var offsets = []uint16{0, 1, 2, 0x10, 0x1234, 0x7fff, 0x8000, 0xfffd, 0xfffe, 0xffff}

// All names, with each segment, forwards and back, with all offsets: what is written, what SI and DI are then, and that all else is as it was.
func TestOnce(t *testing.T) {
	memory := mixed()
	bytes := memory.Bytes(0, 1<<20)
	for _, x := range texts() {
		for seg := range 5 {
			for _, f := range []uint16{0, api.FlagD, api.Flags, api.Flags &^ api.FlagD} {
				for _, si := range offsets {
					for _, di := range offsets {
						m := over(memory)
						m.R.G[api.SI], m.R.G[api.DI], m.R.F = number(si), number(di), f
						want := reckon(m.R, bytes, x, seg)
						Once(m, api.Inst{Seg: seg}, x.name)
						wantRuns(t, m, want)
						if got, _ := memory.Word(extraSeg, di); got != number(word(bytes, extraSeg, di)) {
							t.Fatalf("name %d, SI %04x, DI %04x: %v is there", x.name, si, di, got)
						}
					}
				}
				wantBytes(t, over(memory), bytes)
			}
		}
	}
}

// Drawn registers: texts may lie one over the other, and in each segment.
func TestOnceDrawn(t *testing.T) {
	memory := mixed()
	bytes := memory.Bytes(0, 1<<20)
	draw := drawer(7)
	m := over(memory)
	for range 20000 {
		x := texts()[int(draw())%10]
		seg := int(draw()) % 5
		for n := range m.R.G {
			m.R.G[n] = number(draw())
		}
		m.R.G[api.DI].V = m.R.G[api.SI].V + draw()%5 - 2
		m.R.F, m.R.IP = draw()&api.Flags, draw()
		want := reckon(m.R, bytes, x, seg)
		Once(m, api.Inst{Seg: seg}, x.name)
		wantRuns(t, m, want)
	}
	wantBytes(t, m, bytes)
}

// A word is read whole before one is written, where both lie one over the other.
func TestMoveOverItself(t *testing.T) {
	for _, by := range []uint16{1, 0xffff} {
		m := fresh()
		m.M.SetWord(extraSeg, 0x100, number(0xbbaa))
		m.R.G[api.SI], m.R.G[api.DI] = number(0x100), number(0x100+by)
		Once(m, api.Inst{Seg: 1 + api.ES}, api.MOVSW)
		wantState(t, m, api.Runs)
		wantWord(t, m, extraSeg, 0x100+by, number(0xbbaa))
	}
}

// Segments of registers that there are none of: below none counts, as with prefixes; beyond there is nothing that is the program's.
func TestSegmentsThatThereAreNot(t *testing.T) {
	memory := mixed()
	for _, x := range texts() {
		for _, seg := range []int{math.MinInt, -5, -1} {
			m := over(memory)
			bytes := kept(m)
			want := reckon(m.R, bytes, x, 0)
			Once(m, api.Inst{Seg: seg}, x.name)
			wantRuns(t, m, want)
			wantBytes(t, m, bytes)
		}
		for _, seg := range []int{5, 6, 1000, math.MaxInt} {
			m := over(memory)
			Once(m, api.Inst{Seg: seg}, x.name)
			if (m.State() == api.Stuck) != x.fromSI {
				t.Errorf("name %d with a Seg of %d: %d", x.name, seg, m.State())
			}
		}
	}
}

// Nothing of an instruction but its prefixes plays a part; a prefix that repeats plays none in doing it once.
func TestOtherPartsPlayNoPart(t *testing.T) {
	memory := mixed()
	bytes := memory.Bytes(0, 1<<20)
	for _, x := range texts() {
		for rep := range 3 {
			m := over(memory)
			m.R.G[api.CX] = paragraph(9)
			want := reckon(m.R, bytes, x, 3)
			i := api.Inst{Lock: true, Rep: rep, Seg: 3, Op: 0xa4, Mod: 3, Reg: 2, RM: 1, Disp: 0x777, Imm: 0x888, Sel: 0x999}
			Once(m, i, x.name)
			wantRuns(t, m, want)
		}
	}
	wantBytes(t, over(memory), bytes)
}

func TestOnceOfOthers(t *testing.T) {
	memory := mixed()
	bytes := memory.Bytes(0, 1<<20)
	for _, name := range noNames() {
		for rep := range 3 {
			m := over(memory)
			m.R.G[api.SI].T, m.R.G[api.DI].T = true, true
			m.R.F = api.Flags
			want := m.R
			Once(m, api.Inst{Rep: rep, Seg: rep}, name)
			wantRuns(t, m, want)
		}
	}
	wantBytes(t, over(memory), bytes)
}

// Whatever an instruction and a machine are, both end and do not panic.
func TestWhatMayNotBe(t *testing.T) {
	memory := mem.New()
	numbers := []int{math.MinInt, -1, 0, 3, 4, 8, 255, math.MaxInt}
	for name := -1; name <= api.Names+1; name++ {
		for _, n := range numbers {
			for _, m := range []*core.Machine{
				over(memory), core.New(nil, nil, programPara, programSize), core.New(memory, nil, 0xffff, -1), core.New(memory, nil, 0, math.MaxInt),
			} {
				i := api.Inst{Op: 0xff, Mod: n, Reg: n, RM: n, Seg: n, Rep: n, Disp: 0xffff}
				Once(m, i, name)
				Do(m, i, name)
				m.R = somewhere()
				m.R.F, m.R.G[api.CX] = 0xffff, number(0xffff)
				Do(m, i, name)
			}
		}
	}
}

// A machine that has no memory reads noughts, and writes nothing.
func TestWithoutMemory(t *testing.T) {
	for _, x := range texts() {
		m := core.New(nil, nil, programPara, programSize)
		m.R = somewhere()
		want := reckon(m.R, make([]byte, 1<<20), x, 0)
		Once(m, api.Inst{}, x.name)
		wantState(t, m, api.Runs)
		if m.R != want {
			t.Fatalf("name %d: the registers are\n%+v, want\n%+v", x.name, m.R, want)
		}
	}
}
