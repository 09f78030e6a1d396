package strop

import (
	"testing"

	"hansom/api"
	"hansom/core"
	"hansom/mem"
)

// wantStuck does an instruction that lets the machine be stuck, and that writes nothing then, neither once nor repeated.
func wantStuck(t *testing.T, name int, set func(m *core.Machine)) {
	t.Helper()
	memory := mem.New()
	before := []byte(nil)
	for rep := -1; rep <= 2; rep++ {
		m := over(memory)
		set(m)
		was := m.R
		if before == nil {
			before = kept(m)
		}
		again := false
		if rep < 0 {
			Once(m, api.Inst{}, name)
		} else {
			again = Do(m, api.Inst{Rep: rep}, name)
		}
		wantState(t, m, api.Stuck)
		if again || m.R != was {
			t.Fatalf("name %d, Rep %d: again is %v, the registers are\n%+v, were\n%+v", name, rep, again, m.R, was)
		}
		if got := m.W.Events(); len(got) != 0 {
			t.Fatalf("the world knows of %+v", got)
		}
		wantBytes(t, m, before)
	}
}

// wantGoesOn does an instruction, beside one that would be stuck.
func wantGoesOn(t *testing.T, name int, set func(m *core.Machine)) *core.Machine {
	t.Helper()
	m := fresh()
	set(m)
	Once(m, api.Inst{}, name)
	wantState(t, m, api.Runs)
	return m
}

func TestRegistersThatAreParagraphs(t *testing.T) {
	for _, x := range texts() {
		for n := range 8 {
			set := func(m *core.Machine) { m.R.G[n].T = true }
			counts := n == api.SI && x.fromSI || n == api.DI && x.usesDI()
			// Of AX a byte may not be taken, nor laid into it, nor may it be reckoned with.
			apart := n == api.AX && (x.compares && !x.fromSI || !x.wide && !(x.fromSI && (x.toDI || x.compares)))
			if counts || apart {
				wantStuck(t, x.name, set)
				continue
			}
			wantGoesOn(t, x.name, set)
		}
	}
}

func TestSegmentsThatAreNotTheProgramsAreStuck(t *testing.T) {
	sets := []func(seg int) func(m *core.Machine){
		func(seg int) func(m *core.Machine) { return func(m *core.Machine) { m.R.S[seg].T = false } },
		func(seg int) func(m *core.Machine) { return func(m *core.Machine) { m.R.S[seg] = paragraph(0x0100) } },
		func(seg int) func(m *core.Machine) { return func(m *core.Machine) { m.R.S[seg] = paragraph(0x5000) } },
	}
	for _, x := range texts() {
		for seg := range 4 {
			for _, set := range sets {
				if seg == api.DS && x.fromSI || seg == api.ES && x.usesDI() {
					wantStuck(t, x.name, set(seg))
					continue
				}
				wantGoesOn(t, x.name, set(seg))
			}
		}
	}
}

// The program's last byte, and the one behind; its first byte, and the one ahead of it.
func TestAtTheProgramsEdges(t *testing.T) {
	const last, first = programPara + programSize/16 - 1, programPara - 1
	for _, x := range texts() {
		for _, c := range []struct {
			seg         uint16
			off         uint16
			bytes, wide bool
		}{
			{last, 13, true, true}, {last, 14, true, true}, {last, 15, true, false}, {last, 16, false, false},
			{first, 14, false, false}, {first, 15, false, false}, {first, 16, true, true},
		} {
			runs := c.bytes
			if x.wide {
				runs = c.wide
			}
			at := func(segment, register int) func(m *core.Machine) {
				return func(m *core.Machine) {
					m.R.S[segment], m.R.G[register] = paragraph(c.seg), number(c.off)
				}
			}
			if x.fromSI && runs {
				wantGoesOn(t, x.name, at(api.DS, api.SI))
			} else if x.fromSI {
				wantStuck(t, x.name, at(api.DS, api.SI))
			}
			if x.usesDI() && runs {
				wantGoesOn(t, x.name, at(api.ES, api.DI))
			} else if x.usesDI() {
				wantStuck(t, x.name, at(api.ES, api.DI))
			}
		}
	}
}

// Words that are paragraphs go whole: to memory, from there, and over others.
func TestParagraphsGoWhole(t *testing.T) {
	for _, off := range []uint16{0x20, 0, 1, 0xfffe} {
		for _, was := range []api.Val{number(0x9999), paragraph(0x9999)} {
			lay := func(m *core.Machine) {
				m.R.G[api.SI], m.R.G[api.DI], m.R.G[api.AX] = number(0x10), number(off), paragraph(0x5678)
				m.M.SetWord(dataSeg, 0x10, paragraph(0x1234))
				m.M.SetWord(extraSeg, off, was)
			}
			m := wantGoesOn(t, api.MOVSW, lay)
			wantWord(t, m, extraSeg, off, paragraph(0x1234))
			wantWord(t, m, dataSeg, 0x10, paragraph(0x1234))
			m = wantGoesOn(t, api.STOSW, lay)
			wantWord(t, m, extraSeg, off, paragraph(0x5678))
			if m.R.G[api.AX] != paragraph(0x5678) {
				t.Errorf("AX is %v", m.R.G[api.AX])
			}
			m = wantGoesOn(t, api.LODSW, lay)
			if m.R.G[api.AX] != paragraph(0x1234) {
				t.Errorf("AX is %v", m.R.G[api.AX])
			}
		}
	}
}

// Numbers go over words that are paragraphs, and over registers that have one.
func TestNumbersGoOverParagraphs(t *testing.T) {
	lay := func(m *core.Machine) {
		m.R.G[api.SI], m.R.G[api.DI], m.R.G[api.AX] = number(0x10), number(0x20), number(0x5678)
		m.M.SetWord(dataSeg, 0x10, number(0x1234))
		m.M.SetWord(extraSeg, 0x20, paragraph(0x9999))
	}
	wantWord(t, wantGoesOn(t, api.MOVSW, lay), extraSeg, 0x20, number(0x1234))
	wantWord(t, wantGoesOn(t, api.STOSW, lay), extraSeg, 0x20, number(0x5678))
	m := wantGoesOn(t, api.LODSW, func(m *core.Machine) {
		lay(m)
		m.R.G[api.AX] = paragraph(0x5678)
	})
	if m.R.G[api.AX] != number(0x1234) {
		t.Errorf("AX is %v", m.R.G[api.AX])
	}
}

// Two halves, one of each of two paragraphs' words, are one.
func TestHalvesOfTwoParagraphs(t *testing.T) {
	m := wantGoesOn(t, api.MOVSW, func(m *core.Machine) {
		m.R.G[api.SI], m.R.G[api.DI] = number(0xffff), number(0x20)
		m.M.SetWord(dataSeg, 0xffff, paragraph(0x1234))
	})
	wantWord(t, m, extraSeg, 0x20, paragraph(0x1234))
}

// A paragraph is not laid at the offset 65535, a number is.
func TestParagraphAtTheLastOffset(t *testing.T) {
	for _, name := range []int{api.MOVSW, api.STOSW} {
		for _, v := range []api.Val{number(0x1234), paragraph(0x1234)} {
			set := func(m *core.Machine) {
				m.R.G[api.SI], m.R.G[api.DI], m.R.G[api.AX] = number(0x10), number(0xffff), v
				m.M.SetWord(dataSeg, 0x10, v)
			}
			if v.T {
				wantStuck(t, name, set)
				continue
			}
			wantWord(t, wantGoesOn(t, name, set), extraSeg, 0xffff, v)
		}
	}
}

// What is at SI, or at DI, is a paragraph's word, a byte of it, or a word of which one byte is of it.
func TestPartsOfParagraphs(t *testing.T) {
	lay := func(seg uint16, register int, by uint16) func(m *core.Machine) {
		return func(m *core.Machine) {
			m.M.SetWord(seg, 0x50, paragraph(0x1234))
			m.R.G[register] = number(0x50 + by)
		}
	}
	for _, x := range texts() {
		// A word may be read, or written over, just where it is whole, and nothing reckons with it.
		whole := x.wide && !x.compares
		for _, by := range []uint16{0xfffe, 0xffff, 0, 1, 2} {
			stuck := by == 0 || by == 1
			if x.wide {
				stuck = by == 0xffff || by == 1 || by == 0 && !whole
			}
			for _, c := range []struct {
				uses     bool
				seg      uint16
				register int
			}{{x.fromSI, dataSeg, api.SI}, {x.usesDI(), extraSeg, api.DI}} {
				if c.uses && stuck {
					wantStuck(t, x.name, lay(c.seg, c.register, by))
				} else {
					wantGoesOn(t, x.name, lay(c.seg, c.register, by))
				}
			}
		}
	}
}

// One that is stuck already does nothing more, nor is it done again.
func TestStuckAlready(t *testing.T) {
	for _, x := range texts() {
		wantStuck(t, x.name, (*core.Machine).Stuck)
	}
}
