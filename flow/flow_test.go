package flow

import (
	"math"
	"slices"
	"testing"

	"hansom/api"
	"hansom/core"
	"hansom/isa"
	"hansom/mem"
	"hansom/world"
)

// Where the code, the data and the stack of the tests' program are: its whole is 2^18 bytes from paragraph 1000 (hex) on.
const (
	codeSeg  = 0x1000
	extraSeg = 0x2000
	stackSeg = 0x3000
	dataSeg  = 0x4000

	programPara = 0x1000
	programSize = 0x40000
)

// The jumps with conditions that api doesn't name.
const (
	jNO = api.JO + 1
	jB  = api.JO + 2
	jNB = api.JO + 3
	jZ  = api.JO + 4
	jNZ = api.JO + 5
	jBE = api.JO + 6
	jA  = api.JO + 7
	jS  = api.JO + 8
	jNS = api.JO + 9
	jP  = api.JO + 10
	jNP = api.JO + 11
	jL  = api.JO + 12
	jGE = api.JO + 13
	jLE = api.JO + 14
	jG  = api.JO + 15
)

func number(v uint16) api.Val    { return api.Val{V: v} }
func paragraph(v uint16) api.Val { return api.Val{V: v, T: true} }

// fresh is a machine with a memory of its own, and a world that replies so; registers are all unlike and plain, the segments' are the program's.
func fresh(replies ...uint16) *core.Machine {
	m := core.New(mem.New(), world.New(replies), programPara, programSize)
	m.R = somewhere()
	return m
}

// over is such a machine with a memory that there is already, so that it needn't be made.
func over(memory *mem.Memory, replies ...uint16) *core.Machine {
	m := core.New(memory, world.New(replies), programPara, programSize)
	m.R = somewhere()
	return m
}

func somewhere() api.Regs {
	return api.Regs{
		G: [8]api.Val{
			number(0x1a01), number(0x2b02), number(0x3c03), number(0x4d04),
			number(0x0800), number(0x5e05), number(0x6f06), number(0x7007),
		},
		S:  [4]api.Val{paragraph(extraSeg), paragraph(codeSeg), paragraph(stackSeg), paragraph(dataSeg)},
		IP: 0x0123,
		F:  api.FlagI,
	}
}

// row is what isa tells of an instruction: each that is done here is one of those that there are.
func row(t *testing.T, i api.Inst) api.Row {
	t.Helper()
	r, is := isa.Of(i.Op, i.Reg)
	if !is {
		t.Fatalf("there is no instruction %x /%d", i.Op, i.Reg)
	}
	return r
}

// do does an instruction with nothing behind it but numbers.
func do(t *testing.T, m *core.Machine, i api.Inst) {
	t.Helper()
	Do(m, i, row(t, i), number(i.Imm), number(i.Sel))
}

// short is an instruction without a second byte, and with a word behind it.
func short(op byte, by uint16) api.Inst { return api.Inst{Op: op, Imm: by} }

func wantState(t *testing.T, m *core.Machine, want int) {
	t.Helper()
	if got := m.State(); got != want {
		t.Fatalf("the state is %d, want %d", got, want)
	}
}

// wantRuns holds a machine's registers against others, and its events against none.
func wantRuns(t *testing.T, m *core.Machine, want api.Regs) {
	t.Helper()
	wantState(t, m, api.Runs)
	wantRegs(t, m, want)
	wantEvents(t, m)
}

func wantRegs(t *testing.T, m *core.Machine, want api.Regs) {
	t.Helper()
	if m.R != want {
		t.Fatalf("the registers are\n%+v, want\n%+v", m.R, want)
	}
}

func wantEvents(t *testing.T, m *core.Machine, want ...api.Event) {
	t.Helper()
	if got := m.W.Events(); !slices.Equal(got, want) {
		t.Fatalf("the events are %+v, want %+v", got, want)
	}
}

func wantWord(t *testing.T, m *core.Machine, seg, off uint16, want api.Val) {
	t.Helper()
	if got, whole := m.M.Word(seg, off); got != want || !whole {
		t.Fatalf("at %04x:%04x is %v, %v, want %v", seg, off, got, whole, want)
	}
}

// kept is all bytes of a machine's memory.
func kept(m *core.Machine) []byte { return m.M.Bytes(0, 1<<20) }

// wantKept holds a memory against what it was, but for the words at these places, which the test asks for itself.
func wantKept(t *testing.T, m *core.Machine, before []byte, but ...api.Place) {
	t.Helper()
	now := kept(m)
	for _, p := range but {
		for k := range uint16(2) {
			at := (int(p.Seg.V)*16 + int(p.Off+k)) % len(now)
			now[at] = before[at]
		}
	}
	if !slices.Equal(now, before) {
		t.Fatal("other bytes of the memory are written")
	}
}

// onStack is a place of the stack.
func onStack(off uint16) api.Place { return api.Place{Seg: paragraph(stackSeg), Off: off} }

// By hand: of each condition whether it holds with no flag, with each flag alone, with S and O, and with all flags.
func TestHolds(t *testing.T) {
	flags := []uint16{
		0, api.FlagC, api.FlagP, api.FlagA, api.FlagZ, api.FlagS, api.FlagT, api.FlagI, api.FlagD, api.FlagO,
		api.FlagS | api.FlagO, api.FlagS | api.FlagO | api.FlagZ, api.FlagC | api.FlagZ, api.Flags, 0xffff,
	}
	const y, n = true, false
	cases := []struct {
		name int
		want []bool
	}{
		//             -  C  P  A  Z  S  T  I  D  O  SO SOZ CZ all 16
		{api.JO, []bool{n, n, n, n, n, n, n, n, n, y, y, y, n, y, y}},
		{jNO, []bool{y, y, y, y, y, y, y, y, y, n, n, n, y, n, n}},
		{jB, []bool{n, y, n, n, n, n, n, n, n, n, n, n, y, y, y}},
		{jNB, []bool{y, n, y, y, y, y, y, y, y, y, y, y, n, n, n}},
		{jZ, []bool{n, n, n, n, y, n, n, n, n, n, n, y, y, y, y}},
		{jNZ, []bool{y, y, y, y, n, y, y, y, y, y, y, n, n, n, n}},
		{jBE, []bool{n, y, n, n, y, n, n, n, n, n, n, y, y, y, y}},
		{jA, []bool{y, n, y, y, n, y, y, y, y, y, y, n, n, n, n}},
		{jS, []bool{n, n, n, n, n, y, n, n, n, n, y, y, n, y, y}},
		{jNS, []bool{y, y, y, y, y, n, y, y, y, y, n, n, y, n, n}},
		{jP, []bool{n, n, y, n, n, n, n, n, n, n, n, n, n, y, y}},
		{jNP, []bool{y, y, n, y, y, y, y, y, y, y, y, y, y, n, n}},
		{jL, []bool{n, n, n, n, n, y, n, n, n, y, n, n, n, n, n}},
		{jGE, []bool{y, y, y, y, y, n, y, y, y, n, y, y, y, y, y}},
		{jLE, []bool{n, n, n, n, y, y, n, n, n, y, n, y, y, y, y}},
		{jG, []bool{y, y, y, y, n, n, y, y, y, n, y, n, n, n, n}},
	}
	for _, c := range cases {
		for k, f := range flags {
			if got := Holds(c.name, f); got != c.want[k] {
				t.Errorf("Holds(JO + %d, %04x) is %v", c.name-api.JO, f, got)
			}
		}
	}
	if jG != api.JG {
		t.Errorf("JG is JO and %d", api.JG-api.JO)
	}
}

// holding reckons a condition from its flags' bits.
func holding(name int, f uint16) bool {
	c, p, z, s, o := f&1, f>>2&1, f>>6&1, f>>7&1, f>>11&1
	return []bool{
		o == 1, o == 0, c == 1, c == 0, z == 1, z == 0, c+z > 0, c+z == 0,
		s == 1, s == 0, p == 1, p == 0, s != o, s == o, s != o || z == 1, s == o && z == 0,
	}[name-api.JO]
}

func TestHoldsAtAllFlags(t *testing.T) {
	for f := range 1 << 16 {
		for name := api.JO; name <= api.JG; name++ {
			if Holds(name, uint16(f)) != holding(name, uint16(f)) {
				t.Fatalf("Holds(JO + %d, %04x) is wrong", name-api.JO, f)
			}
		}
	}
}

func TestEachNextOneIsTheOtherWayRound(t *testing.T) {
	for f := range 1 << 16 {
		for name := api.JO; name <= api.JG; name += 2 {
			if Holds(name, uint16(f)) == Holds(name+1, uint16(f)) {
				t.Fatalf("JO + %d and the next one are alike at %04x", name-api.JO, f)
			}
		}
	}
}

// noNames are numbers beyond all names.
var noNames = []int{
	math.MinInt, math.MinInt32, -1 << 16, -95, -33, -32, -17, -16, -2, -1, 0, api.Names + 1, 96, 97, 127, 128, 255, 256,
	256 + api.JO, 1<<16 + api.JO, 1<<32 + api.JO, 1<<32 + api.JMP, math.MaxInt32, math.MaxInt,
}

func TestHoldsOfOthers(t *testing.T) {
	names := slices.Clone(noNames)
	for name := range api.Names + 1 {
		if name < api.JO || name > api.JG {
			names = append(names, name)
		}
	}
	for _, name := range names {
		for f := range 1 << 12 {
			if Holds(name, uint16(f)) || Holds(name, ^uint16(f)) {
				t.Fatalf("%d holds at %04x", name, f)
			}
		}
	}
}

// elsewhere are all names that the chapter tells.
func elsewhere() []int {
	names := []int{
		api.CALL, api.CALLF, api.JMP, api.JMPF, api.RET, api.RETF, api.INT, api.INTO, api.IRET,
		api.LOOP, api.LOOPZ, api.LOOPNZ, api.JCXZ,
	}
	for by := range 16 {
		names = append(names, api.JO+by)
	}
	return names
}

func TestIs(t *testing.T) {
	names := elsewhere()
	for name := -100; name <= 300; name++ {
		if Is(name) != slices.Contains(names, name) {
			t.Errorf("Is(%d) is %v", name, Is(name))
		}
	}
	for _, name := range noNames {
		if Is(name) {
			t.Errorf("%d goes elsewhere", name)
		}
	}
	for _, name := range []int{api.DEC, api.TEST, api.CWD, api.WAIT, api.SCASW, api.LES, api.LDS, api.ROL, api.ESC, api.IN, api.OUT, api.HLT} {
		if Is(name) {
			t.Errorf("%d, beside one, goes elsewhere", name)
		}
	}
}

// Each first byte whose name goes elsewhere is of those that are told.
func TestIsOfAllInstructions(t *testing.T) {
	var ops []byte
	for op := range 256 {
		for reg := range 8 {
			r, is := isa.Of(byte(op), reg)
			if is && Is(r.Name) && !slices.Contains(ops, byte(op)) {
				ops = append(ops, byte(op))
			}
		}
	}
	want := []byte{
		0x70, 0x71, 0x72, 0x73, 0x74, 0x75, 0x76, 0x77, 0x78, 0x79, 0x7a, 0x7b, 0x7c, 0x7d, 0x7e, 0x7f,
		0x9a, 0xc2, 0xc3, 0xca, 0xcb, 0xcc, 0xcd, 0xce, 0xcf, 0xe0, 0xe1, 0xe2, 0xe3, 0xe8, 0xe9, 0xea, 0xeb, 0xff,
	}
	if !slices.Equal(ops, want) {
		t.Errorf("% x go elsewhere, want % x", ops, want)
	}
}

// What does not go elsewhere does nothing here, whatever its operands.
func TestDoOfOthers(t *testing.T) {
	memory := mem.New()
	names := slices.Clone(noNames)
	for name := range api.Names + 1 {
		if !Is(name) {
			names = append(names, name)
		}
	}
	for _, name := range names {
		for _, f := range []uint16{0, api.Flags} {
			for _, a := range []int{api.OpNone, api.OpEv, api.OpMp, api.OpThree, api.OpJb, api.OpIv, -1, 1000} {
				m := over(memory)
				m.R.F = f
				was := m.R
				Do(m, api.Inst{Mod: 3}, api.Row{Name: name, A: a}, paragraph(4), number(5))
				wantRuns(t, m, was)
			}
		}
	}
	wantKept(t, over(memory), make([]byte, 1<<20))
}

// Whatever an instruction and its row are, Do ends and does not panic.
func TestDoOfWhatMayNotBe(t *testing.T) {
	memory := mem.New()
	numbers := []int{math.MinInt, -1, 0, 3, 4, 8, 255, math.MaxInt}
	for name := -1; name <= api.Names+1; name++ {
		for a := -1; a <= api.OpThree+1; a++ {
			for _, n := range numbers {
				i := api.Inst{Op: 0xff, Mod: n, Reg: n, RM: n, Seg: n, Rep: n, Disp: 0xffff}
				Do(over(memory), i, api.Row{Name: name, A: a, B: a}, paragraph(0xffff), paragraph(0xffff))
			}
		}
	}
}

// A machine without memory and world is one that a call made, too.
func TestDoWithoutMemoryAndWorld(t *testing.T) {
	for name := -1; name <= api.Names+1; name++ {
		for _, a := range []int{api.OpNone, api.OpEv, api.OpMp, api.OpThree} {
			m := core.New(nil, nil, programPara, programSize)
			m.R = somewhere()
			m.R.F = api.Flags
			Do(m, api.Inst{}, api.Row{Name: name, A: a}, number(2), number(3))
			if name == api.INT || name == api.INTO {
				wantState(t, m, api.Ended)
			}
		}
	}
}
