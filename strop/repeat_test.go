package strop

import (
	"math"
	"testing"

	"hansom/api"
	"hansom/core"
	"hansom/mem"
)

// counts are what CX may be.
var counts = []uint16{0, 1, 2, 3, 0x100, 0x101, 0x7fff, 0x8000, 0xffff}

// Without a prefix that repeats it is done once, whatever CX is, and never again.
func TestDoWithoutRepeating(t *testing.T) {
	memory := mixed()
	bytes := memory.Bytes(0, 1<<20)
	for _, x := range texts() {
		for _, cx := range counts {
			for _, v := range []api.Val{number(cx), paragraph(cx)} {
				for seg := range 5 {
					m := over(memory)
					m.R.G[api.CX] = v
					want := reckon(m.R, bytes, x, seg)
					if Do(m, api.Inst{Seg: seg}, x.name) {
						t.Fatalf("name %d is to be done again", x.name)
					}
					wantRuns(t, m, want)
				}
			}
		}
	}
	wantBytes(t, over(memory), bytes)
}

// With one, a turn: whether it is to be done again.
func TestDoRepeating(t *testing.T) {
	memory := mixed()
	bytes := memory.Bytes(0, 1<<20)
	for _, x := range texts() {
		for rep := 1; rep <= 2; rep++ {
			for _, cx := range counts {
				for _, alike := range []bool{false, true} {
					for _, f := range []uint16{0, api.Flags, api.FlagZ, api.FlagD} {
						m := over(memory)
						m.R.G[api.CX], m.R.F = number(cx), f
						if alike {
							v, _ := memory.Word(extraSeg, m.R.G[api.DI].V)
							m.R.G[api.AX] = v
							memory.SetWord(dataSeg, m.R.G[api.SI].V, v)
							bytes = kept(m)
						} else {
							m.R.G[api.AX].V ^= 0x5a5a
						}
						want, goes := m.R, false
						if cx != 0 {
							want = reckon(m.R, bytes, x, 0)
							want.G[api.CX] = number(cx - 1)
							goes = cx != 1
						}
						if z := want.F&api.FlagZ != 0; x.compares && z != (rep == 2) {
							goes = false
						}
						if got := Do(m, api.Inst{Rep: rep}, x.name); got != goes {
							t.Fatalf("name %d, Rep %d, CX %04x, alike %v: again is %v", x.name, rep, cx, alike, got)
						}
						wantRuns(t, m, want)
					}
				}
			}
		}
	}
	wantBytes(t, over(memory), bytes)
}

// By hand: of CX, whether they are alike, and what repeats.
func TestDoByHand(t *testing.T) {
	const unlike, alike = 0x22, 0x11
	cases := []struct {
		name, rep int
		cx        uint16
		al        uint16
		again     bool
	}{
		{api.SCASB, 2, 2, alike, true}, {api.SCASB, 2, 2, unlike, false}, {api.SCASB, 2, 1, alike, false}, {api.SCASB, 2, 1, unlike, false},
		{api.SCASB, 1, 2, alike, false}, {api.SCASB, 1, 2, unlike, true}, {api.SCASB, 1, 1, alike, false}, {api.SCASB, 1, 1, unlike, false},
		{api.SCASW, 2, 9, alike, true}, {api.SCASW, 2, 9, unlike, false}, {api.SCASW, 1, 9, alike, false}, {api.SCASW, 1, 9, unlike, true},
		{api.CMPSB, 2, 2, alike, true}, {api.CMPSB, 2, 2, unlike, false}, {api.CMPSB, 1, 2, alike, false}, {api.CMPSB, 1, 2, unlike, true},
		{api.CMPSW, 2, 2, alike, true}, {api.CMPSW, 2, 2, unlike, false}, {api.CMPSW, 1, 2, alike, false}, {api.CMPSW, 1, 2, unlike, true},
		{api.MOVSB, 2, 1, alike, false}, {api.MOVSB, 2, 2, alike, true}, {api.MOVSB, 2, 2, unlike, true}, {api.MOVSB, 1, 2, alike, true},
		{api.STOSW, 2, 0xffff, alike, true}, {api.LODSB, 1, 2, unlike, true}, {api.LODSW, 2, 1, alike, false},
	}
	for _, c := range cases {
		for _, f := range []uint16{0, api.FlagZ} {
			m := fresh()
			m.R.G[api.CX], m.R.G[api.AX], m.R.F = number(c.cx), number(c.al), f
			m.M.SetWord(extraSeg, m.R.G[api.DI].V, number(alike))
			m.M.SetWord(dataSeg, m.R.G[api.SI].V, number(c.al))
			if got := Do(m, api.Inst{Rep: c.rep}, c.name); got != c.again {
				t.Errorf("%+v: again is %v", c, got)
			}
			wantState(t, m, api.Runs)
			if m.R.G[api.CX] != number(c.cx-1) {
				t.Errorf("%+v: CX is %v", c, m.R.G[api.CX])
			}
		}
	}
}

// The chapter's example.
func TestRepeatMoveWithOne(t *testing.T) {
	m := fresh()
	m.R.G[api.CX], m.R.G[api.SI], m.R.G[api.DI] = number(1), number(0), number(0)
	m.M.SetByte(dataSeg, 0, 7)
	m.M.SetByte(dataSeg, 1, 8)
	want := m.R
	want.G[api.CX], want.G[api.SI], want.G[api.DI] = number(0), number(1), number(1)
	if Do(m, api.Inst{Rep: 2}, api.MOVSB) {
		t.Error("it is to be done again")
	}
	wantRuns(t, m, want)
	wantWord(t, m, extraSeg, 0, number(7))
	if Do(m, api.Inst{Rep: 2}, api.MOVSB) {
		t.Error("it is to be done again")
	}
	wantRuns(t, m, want)
	wantWord(t, m, extraSeg, 0, number(7))
}

// turns does an instruction until it is not to be done again, and tells how often.
func turns(m *core.Machine, i api.Inst, name int) int {
	n := 1
	for Do(m, i, name) {
		n++
	}
	return n
}

// With as many turns as CX tells, over a segment's end, forwards and back.
func TestRepeatUntilCXIsNought(t *testing.T) {
	for _, x := range texts() {
		if x.compares {
			continue
		}
		for rep := 1; rep <= 2; rep++ {
			for _, f := range []uint16{api.FlagZ, api.FlagD} {
				for _, cx := range []uint16{1, 2, 3, 300} {
					memory := mixed()
					bytes := memory.Bytes(0, 1<<20)
					m := over(memory)
					m.R.G[api.CX], m.R.G[api.SI], m.R.G[api.DI], m.R.F = number(cx), number(0xfffd), number(3), f
					want := m.R
					for range cx {
						want = reckon(want, bytes, x, 2)
					}
					want.G[api.CX] = number(0)
					if n := turns(m, api.Inst{Rep: rep, Seg: 2}, x.name); n != int(cx) {
						t.Fatalf("name %d is done %d times, not %d", x.name, n, cx)
					}
					wantRuns(t, m, want)
					wantBytes(t, m, bytes)
				}
			}
		}
	}
}

// What is sought is found at a place, or nowhere: SI and DI are behind it, and CX tells how many are left.
func TestRepeatUntilItIsFound(t *testing.T) {
	const many = 50
	for _, x := range comparisons() {
		for rep := 1; rep <= 2; rep++ {
			for _, f := range []uint16{0, api.FlagD} {
				for _, at := range []uint16{0, 1, 2, many - 1, many, many + 1} {
					m := seeking(x, rep, f, at)
					m.R.G[api.CX] = number(many)
					did := min(at+1, many)
					want := m.R
					if x.fromSI {
						want.G[api.SI].V += did * x.step(f != 0)
					}
					want.G[api.DI].V += did * x.step(f != 0)
					want.G[api.CX].V -= did
					if n := turns(m, api.Inst{Rep: rep}, x.name); n != int(did) {
						t.Fatalf("name %d, Rep %d, found at %d: done %d times", x.name, rep, at, n)
					}
					found := at < many
					if z := m.R.F&api.FlagZ != 0; z != (found == (rep == 1)) {
						t.Fatalf("name %d, Rep %d, found at %d: Z is %v", x.name, rep, at, z)
					}
					want.F = m.R.F
					wantRuns(t, m, want)
				}
			}
		}
	}
}

// seeking is a machine whose texts are alike (Rep 2) up to a turn, or unlike (Rep 1).
func seeking(x text, rep int, f, at uint16) *core.Machine {
	const here, there = 0x7171, 0x3030
	m := fresh()
	m.R.G[api.AX], m.R.G[api.SI], m.R.G[api.DI], m.R.F = number(here), number(0x8), number(0xfffa), f
	si, di := m.R.G[api.SI].V, m.R.G[api.DI].V
	for k := range uint16(60) {
		v := uint16(there)
		if (k == at) == (rep == 1) {
			v = here
		}
		put(m.M, x, dataSeg, si+k*x.step(f != 0), here)
		put(m.M, x, extraSeg, di+k*x.step(f != 0), v)
	}
	return m
}

// put lays a word, or its lower byte.
func put(memory *mem.Memory, x text, seg, off, v uint16) {
	if x.wide {
		memory.SetWord(seg, off, number(v))
	} else {
		memory.SetByte(seg, off, byte(v))
	}
}

// CX that is 0 asks nothing of what it would go over.
func TestNothingToRepeat(t *testing.T) {
	memory := mem.New()
	for _, x := range texts() {
		for rep := 1; rep <= 2; rep++ {
			for _, f := range []uint16{0, api.Flags} {
				m := over(memory)
				m.R.G[api.CX], m.R.F = number(0), f
				m.R.G[api.SI].T, m.R.G[api.DI].T, m.R.G[api.AX].T = true, true, true
				m.R.S[api.DS], m.R.S[api.ES] = number(0), number(0)
				want := m.R
				if Do(m, api.Inst{Rep: rep}, x.name) {
					t.Errorf("name %d is to be done again", x.name)
				}
				wantRuns(t, m, want)
			}
		}
	}
	wantBytes(t, over(memory), make([]byte, 1<<20))
}

// A paragraph doesn't count: nothing is written.
func TestAParagraphDoesNotCount(t *testing.T) {
	memory := mixed()
	bytes := memory.Bytes(0, 1<<20)
	for _, x := range texts() {
		for rep := 1; rep <= 2; rep++ {
			for _, cx := range counts {
				m := over(memory)
				m.R.G[api.CX] = paragraph(cx)
				was := m.R
				if Do(m, api.Inst{Rep: rep}, x.name) {
					t.Errorf("name %d is to be done again", x.name)
				}
				wantState(t, m, api.Stuck)
				if m.R != was {
					t.Fatalf("the registers are\n%+v, were\n%+v", m.R, was)
				}
			}
		}
	}
	wantBytes(t, over(memory), bytes)
}

// A text that runs out of the program is stuck there, and what was written ahead of it stays.
func TestRepeatOverTheProgramsEnd(t *testing.T) {
	m := fresh()
	m.R.S[api.ES], m.R.G[api.DI], m.R.G[api.CX] = paragraph(programPara+programSize/16-1), number(12), number(10)
	if n := turns(m, api.Inst{Rep: 2}, api.STOSB); n != 5 {
		t.Errorf("it is done %d times", n)
	}
	wantState(t, m, api.Stuck)
	want := make([]byte, 1<<20)
	for k := range 4 {
		want[programPara*16+programSize-1-k] = 1
	}
	wantBytes(t, m, want)
}

// Other names do nothing once; what repeats them counts all the same.
func TestDoOfOthers(t *testing.T) {
	memory := mixed()
	bytes := memory.Bytes(0, 1<<20)
	for _, name := range noNames() {
		for rep := range 3 {
			for _, cx := range counts {
				for _, f := range []uint16{0, api.Flags} {
					m := over(memory)
					m.R.G[api.CX], m.R.F = number(cx), f
					want := m.R
					if rep > 0 && cx > 0 {
						want.G[api.CX] = number(cx - 1)
					}
					if got := Do(m, api.Inst{Rep: rep}, name); got != (rep > 0 && cx > 1) {
						t.Fatalf("name %d, Rep %d, CX %04x: again is %v", name, rep, cx, got)
					}
					wantRuns(t, m, want)
				}
			}
		}
	}
	wantBytes(t, over(memory), bytes)
}

// Any Rep but 0 repeats; just 1 and 2 ask for Z.
func TestOtherReps(t *testing.T) {
	memory := mem.New()
	for _, x := range texts() {
		for _, rep := range []int{math.MinInt, -2, -1, 3, 4, 258, math.MaxInt} {
			for _, cx := range []uint16{0, 1, 2, 0xffff} {
				for _, ax := range []uint16{0, 5} {
					m := over(memory)
					m.R.G[api.CX], m.R.G[api.AX] = number(cx), number(ax)
					if got := Do(m, api.Inst{Rep: rep}, x.name); got != (cx > 1) {
						t.Fatalf("name %d, Rep %d, CX %04x: again is %v", x.name, rep, cx, got)
					}
				}
			}
		}
	}
}
