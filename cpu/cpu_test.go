package cpu

import (
	"slices"
	"testing"

	"hansom/api"
	"hansom/core"
	"hansom/mem"
	"hansom/world"
)

// The program of these tests, and its segments, 2^16 bytes each, one behind the other.
const (
	programPara = 0x1000
	programSize = 0x40000

	codeSeg  = 0x1000
	dataSeg  = 0x2000
	extraSeg = 0x3000
	stackSeg = 0x4000

	firstIP = 0x0100
)

// drawer draws words by a rule.
type drawer uint32

func (d *drawer) word() uint16 {
	*d = *d*1664525 + 1013904223
	return uint16(*d >> 16)
}

// below is a drawn number below another one.
func (d *drawer) below(n int) int { return int(d.word()) % n }

func number(v uint16) api.Val    { return api.Val{V: v} }
func paragraph(v uint16) api.Val { return api.Val{V: v, T: true} }

// over is a machine of these tests with a memory that there is already, and a world that replies so.
func over(memory *mem.Memory, replies ...uint16) *core.Machine {
	m := core.New(memory, world.New(replies), programPara, programSize)
	m.R = api.Regs{
		G: [8]api.Val{
			api.AX: number(0x1122), api.CX: number(0x3344), api.DX: number(0x5566), api.BX: number(0x7788),
			api.SP: number(0x0800), api.BP: number(0x0a00), api.SI: number(0x0c00), api.DI: number(0x0e00),
		},
		S:  [4]api.Val{api.ES: paragraph(extraSeg), api.CS: paragraph(codeSeg), api.SS: paragraph(stackSeg), api.DS: paragraph(dataSeg)},
		IP: firstIP,
	}
	return m
}

// with is a machine of these tests with these bytes from IP on.
func with(bytes ...byte) *core.Machine {
	m := over(mem.New())
	lay(m, firstIP, bytes)
	return m
}

// lay lays bytes into the machine's code, one by one: offsets come round.
func lay(m *core.Machine, off uint16, bytes []byte) {
	for k, b := range bytes {
		m.M.SetByte(m.R.S[api.CS].V, off+uint16(k), b)
	}
}

func wantState(t *testing.T, m *core.Machine, want int) {
	t.Helper()
	if got := m.State(); got != want {
		t.Fatalf("the state is %d, want %d", got, want)
	}
}

func wantEvents(t *testing.T, m *core.Machine, want ...api.Event) {
	t.Helper()
	if got := m.W.Events(); !slices.Equal(got, want) {
		t.Fatalf("the events are %+v, want %+v", got, want)
	}
}

func wantRegs(t *testing.T, m *core.Machine, want api.Regs) {
	t.Helper()
	if m.R != want {
		t.Fatalf("the registers are\n%+v, want\n%+v", m.R, want)
	}
}

func wantWord(t *testing.T, m *core.Machine, seg, off uint16, want api.Val) {
	t.Helper()
	if got, whole := m.M.Word(seg, off); got != want || !whole {
		t.Fatalf("at %04x:%04x is %v, %v, want %v", seg, off, got, whole, want)
	}
}

func wantBytes(t *testing.T, m *core.Machine, want []byte) {
	t.Helper()
	got := all(m)
	if slices.Equal(got, want) {
		return
	}
	for k := range got {
		if got[k] != want[k] {
			t.Fatalf("at %05x is %02x, want %02x", k, got[k], want[k])
		}
	}
	t.Fatalf("there are %d bytes, want %d", len(got), len(want))
}

// all is the whole memory.
func all(m *core.Machine) []byte { return m.M.Bytes(0, api.MemoryBytes) }

// one is an instruction to be tried by hand: its bytes, what is so ahead of it, and what else is so behind it.
type one struct {
	tells string
	code  []byte
	set   func(m *core.Machine)
	then  func(r *api.Regs)
}

// try does it: IP is behind it, and the registers are as told; nothing happens in the world, and the machine runs on.
func (c one) try(t *testing.T) *core.Machine {
	t.Helper()
	m := with(c.code...)
	if c.set != nil {
		c.set(m)
	}
	want := m.R
	want.IP += uint16(len(c.code))
	if c.then != nil {
		c.then(&want)
	}
	if !Step(m) {
		t.Fatalf("%s: it doesn't run", c.tells)
	}
	if m.R != want || m.State() != api.Runs || len(m.W.Events()) != 0 {
		t.Fatalf("%s: the state is %d, the events are %+v, the registers are\n%+v, want\n%+v", c.tells, m.State(), m.W.Events(), m.R, want)
	}
	return m
}

// tryAll tries each.
func tryAll(t *testing.T, l []one) {
	t.Helper()
	for _, c := range l {
		c.try(t)
	}
}

// The chapter's example.
func TestHalt(t *testing.T) {
	m := with(0xf4)
	want := m.R
	want.IP++
	if !Step(m) {
		t.Fatal("it doesn't run")
	}
	wantState(t, m, api.Ended)
	wantEvents(t, m, api.Event{Kind: api.EvHalt})
	wantRegs(t, m, want)
	if Step(m) {
		t.Error("it runs on")
	}
	wantEvents(t, m, api.Event{Kind: api.EvHalt})
	wantRegs(t, m, want)
}

// A machine that doesn't run does nothing.
func TestStepOfWhatDoesNotRun(t *testing.T) {
	ends := []func(m *core.Machine){
		func(m *core.Machine) { m.End(0) },
		func(m *core.Machine) { m.End(api.EvFault) },
		func(m *core.Machine) { m.Stuck() },
	}
	for _, end := range ends {
		m := with(0x40, 0x40)
		end(m)
		was, bytes, state, events := m.R, all(m), m.State(), m.W.Events()
		if Step(m) || Run(m, 5) != 0 {
			t.Error("it does a step")
		}
		wantRegs(t, m, was)
		wantBytes(t, m, bytes)
		wantState(t, m, state)
		wantEvents(t, m, events...)
	}
}

func TestOfNone(t *testing.T) {
	i, n, imm, sel, is := Fetch(nil)
	if i != (api.Inst{}) || n != 0 || imm != (api.Val{}) || sel != (api.Val{}) || is {
		t.Errorf("of none is fetched %+v, %d, %v, %v, %v", i, n, imm, sel, is)
	}
	if Step(nil) || Run(nil, 5) != 0 {
		t.Error("none does a step")
	}
}

// A machine without a memory reads noughts, and keeps nothing; one without a world hears nothing.
func TestWithoutMemoryOrWorld(t *testing.T) {
	m := over(nil)
	if n := Run(m, 3); n != 3 {
		t.Errorf("%d steps", n)
	}
	wantState(t, m, api.Runs)
	m = with(0xe4, 5, 0xe7, 5, 0xf4)
	m.W = nil
	if n := Run(m, 9); n != 3 || m.R.G[api.AX] != number(0x1100) {
		t.Errorf("%d steps, AX is %v", n, m.R.G[api.AX])
	}
	wantState(t, m, api.Ended)
}
