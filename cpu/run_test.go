package cpu

import (
	"math"
	"testing"

	"hansom/api"
	"hansom/code"
	"hansom/core"
	"hansom/isa"
	"hansom/mem"
	"hansom/world"
)

// What repeats goes on turn by turn: IP is back at its first prefix, and behind it at last.
func TestRepeatTurnByTurn(t *testing.T) {
	for _, c := range []struct {
		tells string
		code  []byte
		ip    uint16
		seg   uint16
	}{
		{"REP MOVSB", []byte{0xf3, 0xa4}, firstIP, dataSeg},
		{"REP ES: LOCK MOVSB", []byte{0xf3, 0x26, 0xf0, 0xa4}, firstIP, extraSeg},
		{"SS: REP MOVSB over the end", []byte{0x36, 0xf3, 0xa4}, 0xfffe, stackSeg},
	} {
		m := over(mem.New())
		m.R.IP = c.ip
		lay(m, c.ip, c.code)
		m.R.G[api.CX] = number(3)
		for k := range uint16(3) {
			m.M.SetByte(c.seg, 0x0c00+k, byte(0x71+k))
		}
		want := m.R
		for k := range uint16(3) {
			if !Step(m) {
				t.Fatalf("%s: it doesn't run", c.tells)
			}
			want.G[api.SI].V++
			want.G[api.DI].V++
			want.G[api.CX].V--
			want.IP = c.ip
			if k == 2 {
				want.IP += uint16(len(c.code))
			}
			wantRegs(t, m, want)
			wantState(t, m, api.Runs)
			if b, _ := m.M.Byte(extraSeg, 0x0e00+k); b != byte(0x71+k) {
				t.Fatalf("%s: turn %d lays %02x", c.tells, k, b)
			}
			if b, _ := m.M.Byte(extraSeg, 0x0e00+k+1); b != 0 {
				t.Fatalf("%s: turn %d lays more", c.tells, k)
			}
		}
	}
}

func TestRepeatOfNone(t *testing.T) {
	cx := ahead(g(api.CX, 0))
	tryAll(t, []one{
		{"REP MOVSB", []byte{0xf3, 0xa4}, cx, nil},
		{"REP CMPSW", []byte{0xf3, 0xa7}, cx, nil},
		{"REPNE SCASB", []byte{0xf2, 0xae}, cx, nil},
	})
}

// Without a prefix that repeats CX plays no part.
func TestTextsOnce(t *testing.T) {
	tryAll(t, []one{
		{"MOVSW", []byte{0xa5}, nil, both(g(api.SI, 0x0c02), g(api.DI, 0x0e02))},
		{"LODSB", []byte{0xac}, word(0x0c00, number(0x9abc)), both(g(api.SI, 0x0c01), g(api.AX, 0x11bc))},
		{"LODSW back", []byte{0xad}, func(m *core.Machine) {
			word(0x0c00, number(0x9abc))(m)
			m.R.F = api.FlagD
		}, both(g(api.SI, 0x0bfe), g(api.AX, 0x9abc))},
		{"CMPSB", []byte{0xa6}, nil, both(g(api.SI, 0x0c01), g(api.DI, 0x0e01), f(fP|fZ))},
		{"SCASW", []byte{0xaf}, ahead(g(api.AX, 0)), both(g(api.DI, 0x0e02), f(fP|fZ), g(api.AX, 0))},
	})
	x := one{"STOSW", []byte{0xab}, ahead(g(api.CX, 0)), g(api.DI, 0x0e02)}
	wantWord(t, x.try(t), extraSeg, 0x0e00, number(0x1122))
}

// What is sought ends it: with REP what is unlike, with REPNE what is alike.
func TestRepeatUntilFound(t *testing.T) {
	for _, c := range []struct {
		code        []byte
		here, there byte
	}{
		{[]byte{0xf2, 0xae}, 7, 5}, {[]byte{0xf3, 0xae}, 5, 7},
	} {
		m := with(c.code...)
		m.R.G[api.AX] = number(7)
		for k := range uint16(9) {
			m.M.SetByte(extraSeg, 0x0e00+k, c.there)
		}
		m.M.SetByte(extraSeg, 0x0e03, c.here)
		want := m.R
		want.G[api.DI].V += 4
		want.G[api.CX].V -= 4
		want.IP += 2
		for k := range 4 {
			if m.R.IP != firstIP {
				t.Fatalf("% x: IP is %04x behind %d turns", c.code, m.R.IP, k)
			}
			Step(m)
		}
		want.F = m.R.F
		wantRegs(t, m, want)
		if z := m.R.F&api.FlagZ != 0; z != (c.here == 7) {
			t.Errorf("% x: Z is %v", c.code, z)
		}
	}
}

// A turn that is stuck is not done again.
func TestRepeatUntilItIsStuck(t *testing.T) {
	m := with(0xf3, 0xaa, 0xf4)
	m.R.S[api.ES], m.R.G[api.DI] = paragraph(stackSeg+0x0fff), number(14)
	if n := Run(m, 100); n != 3 {
		t.Errorf("%d steps", n)
	}
	wantState(t, m, api.Stuck)
	if m.R.IP != firstIP+2 || m.R.G[api.DI] != number(16) || m.R.G[api.CX] != number(0x3342) {
		t.Errorf("the registers are %+v", m.R)
	}
}

// What goes elsewhere counts from behind the instruction.
func TestElsewhere(t *testing.T) {
	tryAll(t, []one{
		{"JMP 5 on", []byte{0xeb, 5}, nil, func(r *api.Regs) { r.IP = firstIP + 7 }},
		{"JMP 5 back", []byte{0xe9, 0xfb, 0xff}, nil, func(r *api.Regs) { r.IP = firstIP - 2 }},
		{"JMP 200 (hex) back", []byte{0xe9, 0, 0xfe}, nil, func(r *api.Regs) { r.IP = 0xff03 }},
		{"JMP BX", []byte{0xff, 0xe3}, nil, func(r *api.Regs) { r.IP = 0x7788 }},
		{"JMP [BX]", []byte{0xff, 0x27}, word(0x7788, number(0x9abc)), func(r *api.Regs) { r.IP = 0x9abc }},
		{"JZ 5 on", []byte{0x74, 5}, nil, nil},
		{"JNZ 5 on", []byte{0x75, 5}, nil, func(r *api.Regs) { r.IP = firstIP + 7 }},
		{"JG with Z", []byte{0x7f, 5}, ahead(f(fZ)), nil},
		{"LOOP", []byte{0xe2, 0xfe}, nil, func(r *api.Regs) { r.IP, r.G[api.CX] = firstIP, number(0x3343) }},
		{"JCXZ", []byte{0xe3, 5}, ahead(g(api.CX, 0)), func(r *api.Regs) { r.IP = firstIP + 7 }},
		{"INTO without O", []byte{0xce}, nil, nil},
		{"RET", []byte{0xc3}, onStack(number(0x1234)), func(r *api.Regs) { r.IP, r.G[api.SP] = 0x1234, number(0x802) }},
		{"RET 6", []byte{0xc2, 6, 0}, onStack(number(0x1234)), func(r *api.Regs) { r.IP, r.G[api.SP] = 0x1234, number(0x808) }},
	})
	x := one{"CALL 5 on", []byte{0xe8, 5, 0}, nil, func(r *api.Regs) { r.IP, r.G[api.SP] = firstIP+8, number(0x7fe) }}
	wantWord(t, x.try(t), stackSeg, 0x07fe, number(firstIP+3))
}

func TestCallFarAndBack(t *testing.T) {
	// CALLF SEG X:0010, HLT; there: INC AX, RETF.
	m := with(0x9a, 0x10, 0, 0, 0, 0xf4)
	m.M.SetWord(codeSeg, firstIP+3, paragraph(extraSeg))
	m.M.Load(extraSeg*16+0x10, []byte{0x40, 0xcb})
	want := m.R
	want.G[api.AX].V++
	want.IP += 6
	if n := Run(m, 9); n != 4 {
		t.Errorf("%d steps", n)
	}
	want.F = m.R.F
	wantRegs(t, m, want)
	wantState(t, m, api.Ended)
	wantEvents(t, m, api.Event{Kind: api.EvHalt})
}

// The world's calls, and those that end the program.
func TestWorldsCalls(t *testing.T) {
	m := over(mem.New(), 0x9abc)
	// INT 10, MOV AH,4C, INT 21.
	lay(m, firstIP, []byte{0xcd, 0x10, 0xb4, 0x4c, 0xcd, 0x21, 0xf4})
	if n := Run(m, 9); n != 3 {
		t.Errorf("%d steps", n)
	}
	wantState(t, m, api.Ended)
	wantEvents(t, m,
		api.Event{Kind: api.EvInt, N: 0x10, V: 0x9abc, A: 0x1122, B: 0x7788, C: 0x3344, D: 0x5566},
		api.Event{Kind: api.EvInt, N: 0x21, V: 0x4cbc, A: 0x4cbc, B: 0x7788, C: 0x3344, D: 0x5566})
	if m.R.IP != firstIP+6 {
		t.Errorf("IP is %04x", m.R.IP)
	}
}

// What an instruction writes over the next one is what is done then.
func TestOwnCodeWrittenOver(t *testing.T) {
	// MOV BYTE CS:[0105],48; INC AX, written over by DEC AX; HLT.
	m := with(0x2e, 0xc6, 0x06, 0x06, 0x01, 0x48, 0x40, 0xf4)
	if n := Run(m, 9); n != 3 || m.R.G[api.AX] != number(0x1121) {
		t.Errorf("%d steps, AX is %v", n, m.R.G[api.AX])
	}
}

func TestRun(t *testing.T) {
	for _, c := range []struct{ told, want int }{
		{0, 0}, {1, 1}, {2, 2}, {77, 77}, {-1, 0}, {math.MinInt, 0}, {api.MostSteps - 1, api.MostSteps - 1}, {api.MostSteps, api.MostSteps},
		{api.MostSteps + 1, api.MostSteps}, {1 << 32, api.MostSteps}, {1<<32 + 5, api.MostSteps}, {math.MaxInt, api.MostSteps},
	} {
		// INC AX, JMP back.
		m := with(0x40, 0xeb, 0xfd)
		m.R.G[api.AX] = number(0)
		if got := Run(m, c.told); got != c.want {
			t.Errorf("Run of %d does %d steps", c.told, got)
		}
		wantState(t, m, api.Runs)
		if got := m.R.G[api.AX].V; got != uint16((c.want+1)/2) {
			t.Errorf("Run of %d: AX is %d", c.told, got)
		}
	}
}

// So many at once are as many as one by one; what ends it is the last one.
func TestRunThatEnds(t *testing.T) {
	for n := range 7 {
		m := with(0x40, 0x41, 0x42, 0xf4, 0x43)
		beside := with(0x40, 0x41, 0x42, 0xf4, 0x43)
		did := 0
		for range n {
			if Step(beside) {
				did++
			}
		}
		if got := Run(m, n); got != did || got != min(n, 4) {
			t.Errorf("Run of %d does %d steps, one by one %d", n, got, did)
		}
		wantRegs(t, m, beside.R)
		if Run(m, n) != max(0, min(4-n, n)) {
			t.Errorf("Run of %d, again: it does others", n)
		}
	}
}

// What isn't an instruction is a step, too; so is what lets it be stuck.
func TestRunUntilThereIsNone(t *testing.T) {
	m := with(0x40, 0x0f)
	if n := Run(m, 9); n != 2 {
		t.Errorf("%d steps", n)
	}
	wantState(t, m, api.Ended)
	wantEvents(t, m, api.Event{Kind: api.EvBad})
	if m.R.IP != firstIP+1 {
		t.Errorf("IP is %04x", m.R.IP)
	}
	m = ending(mem.New(), 3)
	lay(m, firstIP, []byte{0x40, 0x40, 0x40, 0x40})
	if n := Run(m, 9); n != 4 {
		t.Errorf("%d steps", n)
	}
	wantState(t, m, api.Stuck)
	wantEvents(t, m)
}

// wandering is a machine with a drawn program, loaded at a paragraph; all else of the memory is of another kind each time.
func wandering(seed uint32, para uint16, memory *mem.Memory, outside byte) *core.Machine {
	const paras, size = 0x1004, 0x10040
	around := make([]byte, api.MemoryBytes)
	for k := range around {
		around[k] = outside
	}
	memory.Load(0, around)
	d := drawer(seed)
	start := pick(&d)
	for k := range size {
		b := byte(drawnValue(&d))
		if k < len(start) {
			b = start[k]
		}
		memory.Set(uint32(para)*16+uint32(k), b)
	}
	for range 12 {
		memory.SetWord(para, uint16(len(start)+d.below(0x400)), paragraph(para+uint16(d.below(paras))))
	}
	m := core.New(memory, world.New([]uint16{d.word(), d.word(), d.word()}), para, size)
	for n := range m.R.G {
		m.R.G[n] = number(drawnValue(&d))
		if d.below(8) == 0 {
			m.R.G[n] = paragraph(para + uint16(d.below(paras)))
		}
	}
	for n := range m.R.S {
		m.R.S[n] = paragraph(para + uint16(d.below(4)))
	}
	m.R.S[api.CS], m.R.G[api.SP] = paragraph(para), number(0x8000)
	return m
}

// pick is drawn instructions' bytes, that mostly reach what is near, and leave the segments as they are.
func pick(d *drawer) []byte {
	var l []byte
	choice := drawnInsts(d)
	for range 40 {
		i := choice[d.below(len(choice))]
		i.Disp &= 0x1ff
		if row, _ := isa.Of(i.Op, i.Reg); row.A == api.OpSw || row.Name == api.POP && row.A == api.OpZs || row.B == api.OpMp || row.A == api.OpAp {
			continue
		}
		if b, e := code.Put(i); e == api.OK {
			l = append(l, b...)
		}
	}
	return l
}

// The first promise of the whole: wherever it is loaded, a program does the same.
func TestWhereverItIsLoaded(t *testing.T) {
	here, there := mem.New(), mem.New()
	seen := map[int]int{}
	steps := 0
	for seed := range uint32(400) {
		const first, by = 0x0800, 0x6543
		a, b := wandering(seed, first, here, 0xf4), wandering(seed, first+by, there, 0x0f)
		for range 200 {
			if !Step(a) {
				break
			}
			steps++
			Step(b)
			wantState(t, b, a.State())
			if a.State() != api.Stuck {
				wantAlikeRegs(t, a, b, by)
			}
		}
		seen[a.State()]++
		wantEvents(t, b, a.W.Events()...)
		if a.State() != api.Stuck {
			wantAlikeBytes(t, a, b)
		}
	}
	if seen[api.Ended] < 10 || seen[api.Stuck] < 10 || steps < 2000 {
		t.Errorf("seen are %v, %d steps", seen, steps)
	}
}

// wantAlikeRegs and wantAlikeBytes hold two machines' registers and bytes against each other.
func wantAlikeRegs(t *testing.T, a, b *core.Machine, by uint16) {
	t.Helper()
	want := a.R
	for n := range want.G {
		if want.G[n].T {
			want.G[n].V += by
		}
	}
	for n := range want.S {
		if want.S[n].T {
			want.S[n].V += by
		}
	}
	wantRegs(t, b, want)
}

func wantAlikeBytes(t *testing.T, a, b *core.Machine) {
	t.Helper()
	for k := range uint32(a.Size()) {
		v, w := a.M.At(a.Base()+k), b.M.At(b.Base()+k)
		if plain := a.M.Plain(a.Base() + k); plain != b.M.Plain(b.Base()+k) || plain && v != w {
			t.Fatalf("byte %04x is %02x, elsewhere %02x", k, v, w)
		}
	}
}
