package strop

import (
	"testing"

	"hansom/api"
	"hansom/core"
	"hansom/mem"
)

// hold is a machine at which two numbers are held against each other by such an instruction.
func hold(memory *mem.Memory, x text, a, b uint16) *core.Machine {
	m := over(memory)
	m.R.G[api.SI], m.R.G[api.DI] = number(0x40), number(0x60)
	if x.fromSI {
		memory.SetWord(dataSeg, 0x40, number(a))
	} else {
		m.R.G[api.AX] = number(a)
	}
	memory.SetWord(extraSeg, 0x60, number(b))
	return m
}

func comparisons() []text {
	var all []text
	for _, x := range texts() {
		if x.compares {
			all = append(all, x)
		}
	}
	return all
}

// wantHeld holds a and b against each other with flags that were.
func wantHeld(t *testing.T, memory *mem.Memory, x text, a, b, was, flags uint16) {
	t.Helper()
	m := hold(memory, x, a, b)
	m.R.F = was
	want := m.R
	want.F = was&^api.FlagsSum | flags
	want.G[api.DI].V += x.step(was&api.FlagD != 0)
	if x.fromSI {
		want.G[api.SI].V += x.step(was&api.FlagD != 0)
	}
	Once(m, api.Inst{}, x.name)
	wantRuns(t, m, want)
}

// By hand: equal ones, smaller ones and greater ones, with signs and without.
func TestFlagsByHand(t *testing.T) {
	const c, p, a, z, s, o = api.FlagC, api.FlagP, api.FlagA, api.FlagZ, api.FlagS, api.FlagO
	cases := []struct {
		wide        bool
		one, other  uint16
		flags       uint16
		description string
	}{
		{false, 0, 0, z | p, "equal"},
		{false, 0x80, 0x80, z | p, "equal, below 0"},
		{false, 5, 3, 0, "greater"},
		{false, 3, 5, c | a | s, "smaller"},
		{false, 5, 2, p, "greater, by 3"},
		{false, 0x10, 1, a | p, "a borrow of the lower four"},
		{false, 0, 1, c | a | s | p, "0 without 1"},
		{false, 0x80, 1, a | o, "the least without 1"},
		{false, 0x7f, 0xff, c | s | o, "the greatest without -1"},
		{false, 0xff, 1, s, "-1 without 1"},
		{false, 1, 0xff, c | a, "1 without -1"},
		{false, 0xff, 0x7f, s, "-1 without the greatest"},
		{false, 0x1234, 0x5634, z | p, "bytes alone"},
		{true, 0, 0, z | p, "equal"},
		{true, 0xffff, 0xffff, z | p, "equal, below 0"},
		{true, 0x1234, 0x1134, p, "greater, the lower bytes equal"},
		{true, 0x1134, 0x1234, c | s | p, "smaller, the lower bytes equal"},
		{true, 0x100, 1, a | p, "a borrow of the lower byte"},
		{true, 0x8000, 1, a | p | o, "the least without 1"},
		{true, 0x7fff, 0xffff, c | s | p | o, "the greatest without -1"},
		{true, 0x80, 1, a, "a byte's least, as a word"},
		{true, 0, 1, c | a | s | p, "0 without 1"},
	}
	memory := mem.New()
	for _, k := range cases {
		for _, x := range comparisons() {
			if x.wide != k.wide {
				continue
			}
			for _, was := range []uint16{0, api.Flags, api.FlagD, api.FlagI | api.FlagT, api.FlagsSum} {
				t.Log(k.description)
				wantHeld(t, memory, x, k.one, k.other, was, k.flags)
			}
		}
	}
}

func TestFlagsOfAllBytes(t *testing.T) {
	memory := mem.New()
	for _, x := range comparisons() {
		if x.wide {
			continue
		}
		for a := range uint16(256) {
			for b := range uint16(256) {
				// What stands above a byte plays no part.
				wantHeld(t, memory, x, a|b<<8, b|a<<8, a<<4&api.Flags, reckonFlags(a, b, false))
			}
		}
	}
}

func TestFlagsOfWords(t *testing.T) {
	edges := []uint16{
		0, 1, 2, 0xf, 0x10, 0x7f, 0x80, 0xff, 0x100, 0xfff, 0x1000, 0x1234, 0x7ffe, 0x7fff, 0x8000, 0x8001, 0xedcb, 0xff00,
		0xff7f, 0xff80, 0xfff0, 0xfffe, 0xffff,
	}
	memory := mem.New()
	draw := drawer(3)
	for _, x := range comparisons() {
		if !x.wide {
			continue
		}
		for _, a := range edges {
			for _, b := range edges {
				wantHeld(t, memory, x, a, b, draw()&api.Flags, reckonFlags(a, b, true))
			}
		}
		for range 20000 {
			a, b := draw(), draw()
			wantHeld(t, memory, x, a, b, draw()&api.Flags, reckonFlags(a, b, true))
		}
	}
}
