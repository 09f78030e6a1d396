package core

import (
	"math"
	"slices"
	"testing"

	"hansom/api"
	"hansom/mem"
)

// operands are all operands, and numbers that there is none of.
func operands() []int {
	l := []int{math.MinInt, math.MinInt32, -256, -1, 25, 26, 31, 32, 255, 256, 257, 1 << 16, 1<<16 + api.OpEv, 1<<32 + api.OpAX, math.MaxInt}
	for op := api.OpNone; op <= api.OpThree; op++ {
		l = append(l, op)
	}
	return l
}

func wideOperands() []int {
	return []int{api.OpEv, api.OpGv, api.OpSw, api.OpIv, api.OpIs, api.OpOv, api.OpAX, api.OpDX, api.OpZv, api.OpZs}
}

func TestWide(t *testing.T) {
	for _, op := range operands() {
		if got := Wide(op); got != slices.Contains(wideOperands(), op) {
			t.Errorf("Wide(%d) is %v", op, got)
		}
	}
}

// where tells, by another reckoning than the package's, what an operand is: register 'r', its byte 'b', segment register 's', byte 'B' or word 'W' of memory, else ' '.
func where(i api.Inst, op int) (byte, int) {
	switch op {
	case api.OpEb, api.OpEv:
		letters := map[int]string{api.OpEb: "bB", api.OpEv: "rW"}[op]
		if i.Mod == 3 {
			return letters[0], i.RM
		}
		return letters[1], 0
	case api.OpGb, api.OpGv, api.OpSw:
		return map[int]byte{api.OpGb: 'b', api.OpGv: 'r', api.OpSw: 's'}[op], i.Reg
	case api.OpZb, api.OpZv, api.OpZs:
		return map[int]byte{api.OpZb: 'b', api.OpZv: 'r', api.OpZs: 's'}[op], map[bool]int{false: int(i.Op) % 8, true: int(i.Op) / 8 % 4}[op == api.OpZs]
	case api.OpOb:
		return 'B', 0
	case api.OpOv:
		return 'W', 0
	case api.OpAL, api.OpCL:
		return 'b', map[int]int{api.OpAL: 0, api.OpCL: 1}[op]
	case api.OpAX, api.OpDX:
		return 'r', map[int]int{api.OpAX: 0, api.OpDX: 2}[op]
	}
	return ' ', 0
}

// settled is a place of the memory that such an operand has: what BX, SI and Disp tell, or Imm, in DS.
func settled(r api.Regs, i api.Inst, op int) (seg, off uint16) {
	if op == api.OpOb || op == api.OpOv {
		return r.S[api.DS].V, i.Imm
	}
	return r.S[api.DS].V, r.G[api.BX].V + r.G[api.SI].V + i.Disp
}

// drawnInst is an instruction of a drawn byte, whose operand is a register, or in memory at BX + SI + Disp, or at Imm.
func drawnInst(d *drawer) api.Inst {
	i := api.Inst{Op: byte(d.word()), Reg: d.below(8), Imm: d.word(), Sel: d.word()}
	if d.below(2) == 0 {
		i.Mod, i.RM = 3, d.below(8)
		return i
	}
	i.Mod, i.Disp = 2, d.word()
	return i
}

// drawnMachine is a machine that has all of a segment, with drawn registers, of which none or one has a paragraph.
func drawnMachine(d *drawer, memory *mem.Memory) *Machine {
	m := again(memory)
	for n := range m.R.G {
		m.R.G[n] = number(d.word())
	}
	if d.below(2) == 0 {
		m.R.G[d.below(8)].T = true
	}
	for n := range m.R.S {
		m.R.S[n] = paragraph(0x1000)
	}
	m.R.S[d.below(3)] = d.val()
	m.R.F, m.R.IP = d.word(), d.word()
	return m
}

// takesPlace tells whether an operand is where BX and SI tell, and one of them has a paragraph.
func takesPlace(r api.Regs, i api.Inst, op int) bool {
	return (op == api.OpEb || op == api.OpEv) && i.Mod != 3 && (r.G[api.BX].T || r.G[api.SI].T)
}

// wantGet reckons what Get tells of an operand, and whether the machine is stuck behind it.
func wantGet(m *Machine, i api.Inst, op int, tail api.Val) (api.Val, bool) {
	stuck := takesPlace(m.R, i, op)
	kind, n := where(i, op)
	seg, off := settled(m.R, i, op)
	switch kind {
	case 'b':
		v := m.R.G[n%4]
		return number(v.V >> (8 * (n / 4)) % 256), stuck || v.T
	case 'r':
		return m.R.G[n], stuck
	case 's':
		if n > 3 {
			return api.Val{}, stuck
		}
		return m.R.S[n], stuck
	case 'B':
		b, plain := m.M.Byte(seg, off)
		return number(uint16(b)), stuck || !plain
	case 'W':
		v, whole := m.M.Word(seg, off)
		return v, stuck || !whole
	}
	switch op {
	case api.OpIb, api.OpIv, api.OpIs:
		return tail, false
	case api.OpOne:
		return number(1), false
	case api.OpThree:
		return number(3), false
	}
	return api.Val{}, false
}

// drawnMemory is a memory of drawn bytes, with paragraphs' words here and there.
func drawnMemory(d *drawer) *mem.Memory {
	memory := mem.New()
	b := make([]byte, 0x10000)
	for n := range b {
		b[n] = byte(d.word())
	}
	memory.Load(0x10000, b)
	for range 8000 {
		memory.SetWord(0x1000, d.word(), paragraph(d.word()))
	}
	return memory
}

func TestGetOfDrawn(t *testing.T) {
	d := drawer(2024)
	memory := drawnMemory(&d)
	before := kept(memory)
	stuck := 0
	for range 2000 {
		for _, op := range operands() {
			i := drawnInst(&d)
			m := drawnMachine(&d, memory)
			r, tail := m.R, d.val()
			want, isStuck := wantGet(m, i, op, tail)
			if got := m.Get(i, op, tail); got != want {
				t.Fatalf("Get(%+v, %d, %v) is %v, want %v", i, op, tail, got, want)
			}
			if (m.State() == api.Stuck) != isStuck || m.R != r {
				t.Fatalf("Get(%+v, %d) of %+v: the state is %d, and the registers are %+v", i, op, r, m.State(), m.R)
			}
			if isStuck {
				stuck++
			}
		}
	}
	if !slices.Equal(kept(memory), before) || stuck < 100 {
		t.Errorf("bytes are written, or just %d are stuck", stuck)
	}
}

// putOperands are those that Put knows.
func putOperands() []int {
	return []int{
		api.OpEb, api.OpEv, api.OpGb, api.OpGv, api.OpSw, api.OpOb, api.OpOv, api.OpAL, api.OpAX, api.OpZb, api.OpZv, api.OpZs,
	}
}

// wantPut reckons the registers behind a Put into one of them; the value is a number.
func wantPut(r api.Regs, kind byte, n int, v api.Val) api.Regs {
	switch {
	case kind == 'b' && n < 4:
		r.G[n] = number(r.G[n].V&0xff00 | v.V&0xff)
	case kind == 'b':
		r.G[n-4] = number(r.G[n-4].V&0xff | v.V<<8)
	case kind == 'r':
		r.G[n] = v
	case kind == 's' && n < 4:
		r.S[n] = v
	}
	return r
}

// checkRegisterPut holds a Put into no memory against what it is to be.
func checkRegisterPut(t *testing.T, m *Machine, i api.Inst, op int, v api.Val) {
	t.Helper()
	kind, n := where(i, op)
	want := m.R
	isStuck := false
	if slices.Contains(putOperands(), op) {
		isStuck = kind == 'b' && m.R.G[n%4].T
		want = wantPut(m.R, kind, n, v)
	}
	m.Put(i, op, v)
	if m.R != want || (m.State() == api.Stuck) != isStuck {
		t.Fatalf("Put(%+v, %d, %v): the registers are %+v, want %+v, the state is %d", i, op, v, m.R, want, m.State())
	}
}

func TestPutIntoRegisters(t *testing.T) {
	d := drawer(77)
	memory := mem.New()
	before := kept(memory)
	for range 2000 {
		for _, op := range operands() {
			i := drawnInst(&d)
			v := number(d.word())
			kind, _ := where(i, op)
			if kind == 'B' || kind == 'W' {
				continue
			}
			if kind != 'b' {
				v = d.val()
			}
			checkRegisterPut(t, drawnMachine(&d, memory), i, op, v)
		}
	}
	if !slices.Equal(kept(memory), before) {
		t.Error("bytes are written")
	}
}

func TestPutIntoMemory(t *testing.T) {
	d := drawer(99)
	memory := drawnMemory(&d)
	seen := map[bool]int{}
	for range 4000 {
		for _, op := range []int{api.OpEb, api.OpEv, api.OpOb, api.OpOv} {
			i := drawnInst(&d)
			kind, _ := where(i, op)
			m := drawnMachine(&d, memory)
			if kind == 'b' || kind == 'r' || takesPlace(m.R, i, op) {
				continue
			}
			v := number(d.word())
			if kind == 'W' {
				v = d.val()
			}
			checkMemoryPut(t, m, i, op, v)
			seen[m.State() == api.Stuck]++
		}
	}
	if seen[true] < 100 || seen[false] < 100 {
		t.Errorf("seen are %v", seen)
	}
}

// checkMemoryPut holds a Put into memory against what it is to be.
func checkMemoryPut(t *testing.T, m *Machine, i api.Inst, op int, v api.Val) {
	t.Helper()
	r := m.R
	seg, off := settled(m.R, i, op)
	old, whole := m.M.Word(seg, off)
	oldByte, plain := m.M.Byte(seg, off)
	kind, _ := where(i, op)
	m.Put(i, op, v)
	b, isPlain := m.M.Byte(seg, off)
	switch {
	case kind == 'B' && plain:
		wantState(t, m, api.Runs)
		if b != byte(v.V) || !isPlain {
			t.Fatalf("Put(%+v, %d, %v): the byte is %x", i, op, v, b)
		}
	case kind == 'W' && whole && !(v.T && off == 0xffff):
		wantState(t, m, api.Runs)
		wantWord(t, m.M, seg, off, v, true)
	default:
		wantState(t, m, api.Stuck)
		wantWord(t, m.M, seg, off, old, whole)
		if b != oldByte || isPlain != plain {
			t.Fatalf("Put(%+v, %d, %v): the byte is %x, want %x", i, op, v, b, oldByte)
		}
	}
	if m.R != r {
		t.Fatalf("Put(%+v, %d, %v): the registers are %+v", i, op, v, m.R)
	}
}

// A word at its place: Put, then Get, and what else is written.
func TestPutThenGet(t *testing.T) {
	m := fresh()
	m.R.S[api.DS], m.R.S[api.SS] = paragraph(0x1000), paragraph(0x1800)
	m.R.G[api.BP] = number(0x20)
	i := api.Inst{Mod: 1, RM: 6, Disp: 4, Imm: 0x30}
	m.Put(i, api.OpEv, paragraph(0x1234))
	m.Put(i, api.OpOv, number(0x5678))
	m.Put(api.Inst{Imm: 0x32, Seg: 1 + api.SS}, api.OpOb, number(0x9abc))
	wantState(t, m, api.Runs)
	wantWord(t, m.M, 0x1800, 0x24, paragraph(0x1234), true)
	wantWord(t, m.M, 0x1000, 0x30, number(0x5678), true)
	wantWord(t, m.M, 0x1800, 0x32, number(0x00bc), true)
	if v := m.Get(i, api.OpEv, api.Val{}); v != paragraph(0x1234) {
		t.Errorf("it is %v", v)
	}
	if v := m.Get(i, api.OpOv, api.Val{}); v != number(0x5678) {
		t.Errorf("it is %v", v)
	}
	if v := m.Get(i, api.OpOb, api.Val{}); v != number(0x78) {
		t.Errorf("it is %v", v)
	}
	wantState(t, m, api.Runs)
}

func TestOperandsOutsideTheProgram(t *testing.T) {
	for _, op := range []int{api.OpEb, api.OpEv, api.OpOb, api.OpOv} {
		for _, seg := range []api.Val{number(0x1000), paragraph(0x2000), paragraph(0x0fff)} {
			memory := mem.New()
			m := again(memory)
			m.R.S[api.DS] = seg
			m.Get(api.Inst{}, op, api.Val{})
			wantState(t, m, api.Stuck)
			m = again(memory)
			m.R.S[api.DS] = seg
			m.Put(api.Inst{}, op, number(0x1234))
			wantState(t, m, api.Stuck)
			wantWord(t, memory, seg.V, 0, number(0), true)
		}
	}
}

// All bytes of registers that have a paragraph: they are told, and the machine is stuck.
func TestBytesOfParagraphs(t *testing.T) {
	for n := range 8 {
		for _, op := range []int{api.OpEb, api.OpGb, api.OpZb, api.OpAL, api.OpCL} {
			i := api.Inst{Mod: 3, RM: n, Reg: n, Op: byte(0xb0 + n)}
			m := again(nil)
			m.R = somewhere()
			m.R.G[n%4].T = true
			want, isStuck := wantGet(m, i, op, api.Val{})
			if got := m.Get(i, op, api.Val{}); got != want {
				t.Errorf("operand %d, byte %d: %v", op, n, got)
			}
			if (m.State() == api.Stuck) != isStuck {
				t.Errorf("operand %d, byte %d: %d", op, n, m.State())
			}
		}
	}
}

// The other registers' paragraphs play no part.
func TestBytesBesideParagraphs(t *testing.T) {
	for n := range 8 {
		m := again(nil)
		for k := range m.R.G {
			m.R.G[k] = api.Val{V: uint16(0x1101 * (k + 1)), T: k != n%4}
		}
		i := api.Inst{Mod: 3, RM: n, Reg: n, Op: byte(n)}
		for _, op := range []int{api.OpEb, api.OpGb, api.OpZb} {
			m.Get(i, op, api.Val{})
			m.Put(i, op, number(7))
		}
		wantState(t, m, api.Runs)
	}
}

// Half of a paragraph is none of a number: to put it takes the paragraph apart.
func TestPutOfAParagraphsByte(t *testing.T) {
	for _, op := range []int{api.OpEb, api.OpGb, api.OpOb, api.OpAL, api.OpZb} {
		for _, mod := range []int{0, 3} {
			m := fresh()
			m.R.S[api.DS] = paragraph(0x1000)
			m.Put(api.Inst{Mod: mod}, op, paragraph(0x1234))
			wantState(t, m, api.Stuck)
		}
	}
}

// Registers that there are none of tell 0, and are not written.
func TestNoSuchRegisters(t *testing.T) {
	for _, n := range []int{-1, -8, 8, 9, 256, 1 << 32, math.MinInt, math.MaxInt} {
		i := api.Inst{Mod: 3, RM: n, Reg: n}
		for _, op := range []int{api.OpEb, api.OpEv, api.OpGb, api.OpGv, api.OpSw} {
			m := again(nil)
			m.R = somewhere()
			if v := m.Get(i, op, number(5)); v != (api.Val{}) {
				t.Errorf("register %d of operand %d is %v", n, op, v)
			}
			m.Put(i, op, number(5))
			if m.R != somewhere() {
				t.Errorf("register %d of operand %d is written: %+v", n, op, m.R)
			}
			wantState(t, m, api.Runs)
		}
	}
	for n := 4; n < 8; n++ {
		m := again(nil)
		m.R = somewhere()
		m.Put(api.Inst{Reg: n}, api.OpSw, number(5))
		if m.R != somewhere() || m.Get(api.Inst{Reg: n}, api.OpSw, number(5)) != (api.Val{}) {
			t.Errorf("segment register %d: %+v", n, m.R)
		}
	}
}

// Whatever Mod and RM there are, but Mod 3: it is where addr tells, and no register is written.
func TestMemoryOfAnyMod(t *testing.T) {
	for _, mod := range []int{math.MinInt, -1, 0, 1, 2, 4, 7, 1<<32 + 3, math.MaxInt} {
		m := fresh()
		m.R = somewhere()
		m.R.S[api.DS] = paragraph(0x1000)
		m.R.G[api.BX] = number(0x40)
		i := api.Inst{Mod: mod, RM: 7}
		p := m.Place(i)
		r := m.R
		m.Put(i, api.OpEv, number(0x4321))
		wantWord(t, m.M, p.Seg.V, p.Off, number(0x4321), true)
		m.Put(i, api.OpEb, number(0xfedc))
		wantWord(t, m.M, p.Seg.V, p.Off, number(0x43dc), true)
		if m.R != r {
			t.Errorf("Mod %d: the registers are %+v", mod, m.R)
		}
		wantState(t, m, api.Runs)
	}
}

func TestPushAndPop(t *testing.T) {
	values := []api.Val{number(0), number(5), number(0xabcd), paragraph(0x1234), paragraph(0)}
	for _, sp := range []uint16{0, 1, 2, 3, 0x100, 0x101, 0xfffe, 0xffff} {
		for _, v := range values {
			m := fresh()
			m.R = somewhere()
			m.R.S[api.SS] = paragraph(0x1000)
			m.R.G[api.SP] = number(sp)
			want := m.R
			want.G[api.SP] = number(sp - 2)
			m.Push(v)
			if m.R != want {
				t.Fatalf("Push(%v) with %x: %+v", v, sp, m.R)
			}
			if v.T && sp == 1 {
				// It would come round.
				wantState(t, m, api.Stuck)
				wantWord(t, m.M, 0x1000, sp-2, number(0), true)
				continue
			}
			wantWord(t, m.M, 0x1000, sp-2, v, true)
			if got := m.Pop(); got != v {
				t.Fatalf("Pop behind Push(%v) with %x: %v", v, sp, got)
			}
			want.G[api.SP] = number(sp)
			if m.R != want {
				t.Fatalf("Pop with %x: %+v", sp-2, m.R)
			}
			wantState(t, m, api.Runs)
		}
	}
}

func TestPushSeveral(t *testing.T) {
	m := fresh()
	m.R.S[api.SS] = paragraph(0x1100)
	values := []api.Val{number(1), paragraph(2), number(0xffff), paragraph(0x8000)}
	m.R.G[api.SP] = number(6)
	for _, v := range values {
		m.Push(v)
	}
	// The fourth one comes round to the segment's end, that is behind the program's.
	wantState(t, m, api.Stuck)
	m = fresh()
	m.R.S[api.SS] = paragraph(0x1100)
	m.R.G[api.SP] = number(0x40)
	for _, v := range values {
		m.Push(v)
	}
	for k := range values {
		if got := m.Pop(); got != values[len(values)-1-k] {
			t.Errorf("number %d from the end is %v", k, got)
		}
	}
	wantState(t, m, api.Runs)
	if m.R.G[api.SP] != number(0x40) {
		t.Errorf("SP is %v", m.R.G[api.SP])
	}
}

func TestPopReads(t *testing.T) {
	m := fresh()
	m.R.S[api.SS] = paragraph(0x1000)
	m.M.SetWord(0x1000, 0x80, paragraph(0x5555))
	m.M.SetWord(0x1000, 0x82, number(0x6666))
	m.R.G[api.SP] = number(0x80)
	if m.Pop() != paragraph(0x5555) || m.Pop() != number(0x6666) || m.R.G[api.SP] != number(0x84) {
		t.Errorf("SP is %v", m.R.G[api.SP])
	}
	wantState(t, m, api.Runs)
	m.R.G[api.SP] = number(0x81)
	m.Pop()
	wantState(t, m, api.Stuck)
}

func TestStacksThatLetItBeStuck(t *testing.T) {
	stacks := []struct {
		ss, sp api.Val
		stuck  bool
	}{
		{paragraph(0x1000), number(0x10), false},
		{number(0x1000), number(0x10), true},
		{paragraph(0x1000), paragraph(0x10), true},
		{paragraph(0x2000), number(0x10), true},
		{paragraph(0x0f00), number(0x10), true},
	}
	for _, s := range stacks {
		memory := mem.New()
		for _, do := range []func(m *Machine){func(m *Machine) { m.Push(number(7)) }, func(m *Machine) { m.Pop() }} {
			m := again(memory)
			m.R.S[api.SS], m.R.G[api.SP] = s.ss, s.sp
			do(m)
			if (m.State() == api.Stuck) != s.stuck {
				t.Errorf("with %v and %v the state is %d", s.ss, s.sp, m.State())
			}
		}
	}
}
