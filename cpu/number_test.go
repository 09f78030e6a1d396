package cpu

import (
	"testing"

	"hansom/api"
	"hansom/core"
)

// Flags, in short.
const (
	fC = api.FlagC
	fP = api.FlagP
	fA = api.FlagA
	fZ = api.FlagZ
	fS = api.FlagS
	fO = api.FlagO

	// beside are those that sums don't tell.
	beside = api.FlagT | api.FlagI | api.FlagD
)

func TestSums(t *testing.T) {
	tryAll(t, []one{
		{"ADD AX,BX", []byte{0x01, 0xd8}, nil, both(g(api.AX, 0x88aa), f(fP|fS|fO))},
		{"ADD AX,BX, the other way", []byte{0x03, 0xc3}, nil, both(g(api.AX, 0x88aa), f(fP|fS|fO))},
		{"ADD AL,BL", []byte{0x00, 0xd8}, nil, both(g(api.AX, 0x11aa), f(fP|fS))},
		{"ADD AL,BL, the other way", []byte{0x02, 0xc3}, nil, both(g(api.AX, 0x11aa), f(fP|fS))},
		{"ADD AL,DE", []byte{0x04, 0xde}, ahead(f(beside)), both(g(api.AX, 0x1100), f(beside|fC|fP|fA|fZ))},
		{"ADD AX,1", []byte{0x05, 1, 0}, nil, both(g(api.AX, 0x1123), f(0))},
		{"ADD CX,-1", []byte{0x83, 0xc1, 0xff}, nil, both(g(api.CX, 0x3343), f(fC|fA))},
		{"ADD CX,1234", []byte{0x81, 0xc1, 0x34, 0x12}, nil, both(g(api.CX, 0x4578), f(fP))},
		{"ADC AX,1 with C", []byte{0x15, 1, 0}, ahead(f(fC)), both(g(api.AX, 0x1124), f(fP))},
		{"ADC AX,1 without", []byte{0x15, 1, 0}, ahead(f(api.Flags &^ fC)), both(g(api.AX, 0x1123), f(beside))},
		{"SBB AX,1 with C", []byte{0x1d, 1, 0}, ahead(f(fC)), both(g(api.AX, 0x1120), f(0))},
		{"SBB AX,1 without", []byte{0x1d, 1, 0}, nil, both(g(api.AX, 0x1121), f(fP))},
		{"SUB AX,BX", []byte{0x29, 0xd8}, nil, both(g(api.AX, 0x999a), f(fC|fP|fA|fS))},
		{"SUB BX,AX", []byte{0x2b, 0xd8}, nil, both(g(api.BX, 0x6666), f(fP))},
		{"SUB AX,AX", []byte{0x29, 0xc0}, ahead(f(api.Flags)), both(g(api.AX, 0), f(beside|fP|fZ))},
		{"CMP AX,BX", []byte{0x39, 0xd8}, nil, f(fC | fP | fA | fS)},
		{"CMP AL,22", []byte{0x3c, 0x22}, ahead(f(fC)), f(fP | fZ)},
		{"TEST AX,BX", []byte{0x85, 0xd8}, ahead(f(fC | fO | fA)), f(fP)},
		{"TEST BYTE BL,88", []byte{0xf6, 0xc3, 0x88}, nil, f(fP | fS)},
		{"TEST AX,0100", []byte{0xa9, 0, 1}, nil, f(fP)},
		{"AND AX,BX", []byte{0x21, 0xd8}, nil, both(g(api.AX, 0x1100), f(fP))},
		{"OR AX,BX", []byte{0x09, 0xd8}, nil, both(g(api.AX, 0x77aa), f(fP))},
		{"XOR AL,AL", []byte{0x30, 0xc0}, ahead(f(fC)), both(g(api.AX, 0x1100), f(fP|fZ))},
		{"AND AL,F", []byte{0x24, 0x0f}, nil, both(g(api.AX, 0x1102), f(0))},
	})
}

func TestSumsInMemory(t *testing.T) {
	cases := []struct {
		one
		want uint16
	}{
		{one{"ADD [10],BX", []byte{0x01, 0x1e, 0x10, 0}, word(0x10, number(0x1122)), f(fP | fS | fO)}, 0x88aa},
		{one{"ADD [10],BL", []byte{0x00, 0x1e, 0x10, 0}, word(0x10, number(0x1122)), f(fP | fS)}, 0x11aa},
		{one{"SUB WORD [10],1", []byte{0x83, 0x2e, 0x10, 0, 1}, word(0x10, number(0)), f(fC | fP | fA | fS)}, 0xffff},
		{one{"CMP WORD [10],1", []byte{0x83, 0x3e, 0x10, 0, 1}, word(0x10, number(0)), f(fC | fP | fA | fS)}, 0},
		{one{"TEST BYTE [10],1", []byte{0xf6, 0x06, 0x10, 0, 1}, word(0x10, number(0xff03)), f(0)}, 0xff03},
		{one{"INC WORD [10]", []byte{0xff, 0x06, 0x10, 0}, word(0x10, number(0xff)), f(fP | fA)}, 0x100},
		{one{"INC BYTE [10]", []byte{0xfe, 0x06, 0x10, 0}, word(0x10, number(0xff)), f(fP | fA | fZ)}, 0},
		{one{"DEC BYTE [10]", []byte{0xfe, 0x0e, 0x10, 0}, word(0x10, number(0x200)), f(fP | fA | fS)}, 0x2ff},
		{one{"NOT WORD [10]", []byte{0xf7, 0x16, 0x10, 0}, word(0x10, number(0x1234)), nil}, 0xedcb},
		{one{"NEG BYTE [10]", []byte{0xf6, 0x1e, 0x10, 0}, word(0x10, number(0x1280)), f(fC | fS | fO)}, 0x1280},
		{one{"SHL WORD [10],1", []byte{0xd1, 0x26, 0x10, 0}, word(0x10, number(0x8001)), f(fC | fO)}, 0x0002},
		{one{"ROR BYTE [10],CL", []byte{0xd2, 0x0e, 0x10, 0}, word(0x10, number(0x1281)), nil}, 0x1218},
	}
	for _, c := range cases {
		wantWord(t, c.try(t), dataSeg, 0x10, number(c.want))
	}
}

func TestOneNumber(t *testing.T) {
	for _, was := range []uint16{0, api.Flags} {
		c := was & fC
		rest := was & beside
		set := ahead(f(was), g(api.CX, 0x7fff), g(api.DX, 0))
		tryAll(t, []one{
			{"INC CX", []byte{0x41}, set, both(g(api.CX, 0x8000), f(rest|c|fP|fA|fS|fO))},
			{"INC CX, by the second byte", []byte{0xff, 0xc1}, set, both(g(api.CX, 0x8000), f(rest|c|fP|fA|fS|fO))},
			{"DEC DX", []byte{0x4a}, set, both(g(api.DX, 0xffff), f(rest|c|fP|fA|fS))},
			{"INC CL", []byte{0xfe, 0xc1}, set, both(g(api.CX, 0x7f00), f(rest|c|fP|fA|fZ))},
			{"NOT CH", []byte{0xf6, 0xd5}, set, g(api.CX, 0x80ff)},
			{"NEG CX", []byte{0xf7, 0xd9}, set, both(g(api.CX, 0x8001), f(rest|fC|fA|fS))},
			{"NEG DX", []byte{0xf7, 0xda}, set, f(rest | fP | fZ)},
		})
	}
}

// By 1, and by CL: none, few, and all of its bits count.
func TestShifts(t *testing.T) {
	cl := func(n uint16, was uint16, ax uint16) func(m *core.Machine) {
		return ahead(g(api.CX, 0xff00|n), f(was), g(api.AX, ax))
	}
	tryAll(t, []one{
		{"SHL AL,1", []byte{0xd0, 0xe0}, ahead(g(api.AX, 0x1180), f(api.Flags)), both(g(api.AX, 0x1100), f(beside|fC|fP|fZ|fO))},
		{"SAR AX,1", []byte{0xd1, 0xf8}, ahead(g(api.AX, 0x8001)), both(g(api.AX, 0xc000), f(fC|fP|fS))},
		{"RCR AX,1", []byte{0xd1, 0xd8}, ahead(g(api.AX, 0x0002), f(fC|fZ|fA)), both(g(api.AX, 0x8001), f(fZ|fA|fO))},
		{"ROL AH,1", []byte{0xd0, 0xc4}, ahead(g(api.AX, 0x81ff), f(fS)), both(g(api.AX, 0x03ff), f(fS|fC|fO))},
		{"SHL AX,CL of 0", []byte{0xd3, 0xe0}, cl(0, api.Flags, 0x8001), nil},
		{"SAR AL,CL of 0", []byte{0xd2, 0xf8}, cl(0, fC|fZ, 0x80), nil},
		{"ROR AX,CL of 0", []byte{0xd3, 0xc8}, cl(0, fC|fO, 1), nil},
		{"SHR AX,CL of 3", []byte{0xd3, 0xe8}, cl(3, fA, 0x00ff), both(g(api.AX, 0x001f), f(fC))},
		{"SHL AX,CL of 7", []byte{0xd3, 0xe0}, cl(7, 0, 0x0201), both(g(api.AX, 0x0080), f(fC|fO))},
		{"SHL AX,CL of 16", []byte{0xd3, 0xe0}, cl(16, 0, 0x0001), both(g(api.AX, 0), f(fC|fP|fZ|fO))},
		{"SHL AX,CL of 17", []byte{0xd3, 0xe0}, cl(17, 0, 0x0001), both(g(api.AX, 0), f(fP|fZ))},
		{"SHL AX,CL of 32", []byte{0xd3, 0xe0}, cl(32, 0, 0x0001), both(g(api.AX, 0), f(fP|fZ))},
		{"SHL AX,CL of 33", []byte{0xd3, 0xe0}, cl(33, 0, 0x0001), both(g(api.AX, 0), f(fP|fZ))},
		{"SAR AX,CL of 255", []byte{0xd3, 0xf8}, cl(255, 0, 0x8000), both(g(api.AX, 0xffff), f(fC|fP|fS))},
		{"ROL AX,CL of 255", []byte{0xd3, 0xc0}, cl(255, 0, 0x0001), both(g(api.AX, 0x8000), f(fO))},
		{"RCL AL,CL of 9", []byte{0xd2, 0xd0}, cl(9, fC|fS, 0x5a), both(g(api.AX, 0x5a), f(fC|fS|fO))},
		{"SHR CL,CL", []byte{0xd2, 0xe9}, cl(2, 0, 0), both(g(api.CX, 0xff00), f(fC|fP|fZ))},
	})
}

func TestProducts(t *testing.T) {
	const sums = api.Flags &^ (fC | fO)
	tryAll(t, []one{
		{"MUL CL", []byte{0xf6, 0xe1}, ahead(g(api.AX, 0xff02), g(api.CX, 0x0003), f(api.Flags)), both(g(api.AX, 6), f(sums))},
		{"MUL CL, more", []byte{0xf6, 0xe1}, ahead(g(api.AX, 0x80), g(api.CX, 2)), both(g(api.AX, 0x100), f(fC|fO))},
		{"MUL AL", []byte{0xf6, 0xe0}, ahead(g(api.AX, 0x12ff)), both(g(api.AX, 0xfe01), f(fC|fO))},
		{"MUL CX", []byte{0xf7, 0xe1}, ahead(g(api.AX, 0x1234), g(api.CX, 0x10)), both(g(api.AX, 0x2340), g(api.DX, 1), f(fC|fO))},
		{"MUL CX, less", []byte{0xf7, 0xe1}, ahead(g(api.AX, 3), g(api.CX, 4), f(api.Flags)), both(g(api.AX, 12), g(api.DX, 0), f(sums))},
		{"MUL DX", []byte{0xf7, 0xe2}, ahead(g(api.AX, 0xffff), g(api.DX, 0xffff)), both(g(api.AX, 1), g(api.DX, 0xfffe), f(fC|fO))},
		{"IMUL CL", []byte{0xf6, 0xe9}, ahead(g(api.AX, 0xfe), g(api.CX, 3), f(api.Flags)), both(g(api.AX, 0xfffa), f(sums))},
		{"IMUL CL, more", []byte{0xf6, 0xe9}, ahead(g(api.AX, 0x80), g(api.CX, 0x80)), both(g(api.AX, 0x4000), f(fC|fO))},
		{"IMUL CX", []byte{0xf7, 0xe9}, ahead(g(api.AX, 0xffff), g(api.CX, 2), f(fC|fO|fS)), both(g(api.AX, 0xfffe), g(api.DX, 0xffff), f(fS))},
		{"IMUL CX, more", []byte{0xf7, 0xe9}, ahead(g(api.AX, 0x4000), g(api.CX, 2)), both(g(api.AX, 0x8000), g(api.DX, 0), f(fC|fO))},
		{"MUL WORD [10]", []byte{0xf7, 0x26, 0x10, 0}, word(0x10, number(0x100)), both(g(api.AX, 0x2200), g(api.DX, 0x11), f(fC|fO))},
		{"MUL BYTE [10]", []byte{0xf6, 0x26, 0x10, 0}, word(0x10, number(0x0102)), g(api.AX, 0x44)},
	})
}

func TestDivisions(t *testing.T) {
	for _, was := range []uint16{0, api.Flags, fC | fZ} {
		set := func(ax, cx, dx uint16) func(m *core.Machine) {
			return ahead(g(api.AX, ax), g(api.CX, cx), g(api.DX, dx), f(was))
		}
		tryAll(t, []one{
			{"DIV CL", []byte{0xf6, 0xf1}, set(0x0107, 2, 9), g(api.AX, 0x0183)},
			{"DIV CH", []byte{0xf6, 0xf5}, set(7, 0x0200, 9), g(api.AX, 0x0103)},
			{"DIV CL, just so", []byte{0xf6, 0xf1}, set(0x0fff, 0x10, 0), g(api.AX, 0x0fff)},
			{"DIV CX", []byte{0xf7, 0xf1}, set(7, 2, 1), both(g(api.AX, 0x8003), g(api.DX, 1))},
			{"DIV CX, just so", []byte{0xf7, 0xf1}, set(0xffff, 0x10, 0xf), both(g(api.AX, 0xffff), g(api.DX, 0xf))},
			{"IDIV CL", []byte{0xf6, 0xf9}, set(0xfff9, 2, 9), g(api.AX, 0xfffd)},
			{"IDIV CL by less than nought", []byte{0xf6, 0xf9}, set(7, 0xfe, 9), g(api.AX, 0x01fd)},
			{"IDIV CX", []byte{0xf7, 0xf9}, set(0xfff9, 2, 0xffff), both(g(api.AX, 0xfffd), g(api.DX, 0xffff))},
			{"DIV AL", []byte{0xf6, 0xf0}, set(5, 0, 0), g(api.AX, 1)},
		})
	}
	one{"DIV WORD [10]", []byte{0xf7, 0x36, 0x10, 0}, func(m *core.Machine) {
		word(0x10, number(0x100))(m)
		m.R.G[api.DX] = number(0)
	}, both(g(api.AX, 0x11), g(api.DX, 0x22))}.try(t)
}

// By 0, and too great: it ends, with nothing changed but that IP is behind it.
func TestDivisionsThatCannotBe(t *testing.T) {
	cases := []struct {
		code       []byte
		ax, cx, dx uint16
	}{
		{[]byte{0xf6, 0xf1}, 7, 0, 0}, {[]byte{0xf6, 0xf1}, 0, 0xff00, 0}, {[]byte{0xf6, 0xf1}, 0x1000, 0x10, 0}, {[]byte{0xf6, 0xf1}, 0xffff, 1, 0},
		{[]byte{0xf7, 0xf1}, 7, 0, 0}, {[]byte{0xf7, 0xf1}, 0, 0x10, 0x10}, {[]byte{0xf7, 0xf1}, 0, 1, 1}, {[]byte{0xf7, 0xf1}, 0, 0, 0},
		{[]byte{0xf6, 0xf9}, 7, 0, 0}, {[]byte{0xf6, 0xf9}, 0x80, 1, 0}, {[]byte{0xf6, 0xf9}, 0xff80, 1, 0}, {[]byte{0xf6, 0xf9}, 0x80, 0xff, 0},
		{[]byte{0xf7, 0xf9}, 7, 0, 0}, {[]byte{0xf7, 0xf9}, 0x8000, 1, 0}, {[]byte{0xf7, 0xf9}, 0x8000, 1, 0xffff}, {[]byte{0xf7, 0xf9}, 0, 0xffff, 0x8000},
		{[]byte{0xf6, 0x36, 0x10, 0}, 7, 7, 7}, {[]byte{0x26, 0xf7, 0x3e, 0x10, 0}, 7, 7, 7},
	}
	for _, c := range cases {
		for _, was := range []uint16{0, api.Flags} {
			m := with(c.code...)
			ahead(g(api.AX, c.ax), g(api.CX, c.cx), g(api.DX, c.dx), f(was))(m)
			want, bytes := m.R, all(m)
			want.IP += uint16(len(c.code))
			if !Step(m) {
				t.Fatalf("% x: it doesn't run", c.code)
			}
			wantRegs(t, m, want)
			wantBytes(t, m, bytes)
			wantState(t, m, api.Ended)
			wantEvents(t, m, api.Event{Kind: api.EvFault})
			if Step(m) {
				t.Fatalf("% x: it runs on", c.code)
			}
		}
	}
}

func TestDecimalDigits(t *testing.T) {
	tryAll(t, []one{
		{"AAA", []byte{0x37}, ahead(g(api.AX, 0x010b), f(fZ)), both(g(api.AX, 0x0201), f(fZ|fA|fC))},
		{"AAA of a digit", []byte{0x37}, ahead(g(api.AX, 0x0139), f(beside|fC|fS)), both(g(api.AX, 0x0109), f(beside|fS))},
		{"AAS", []byte{0x3f}, ahead(g(api.AX, 0x020f)), both(g(api.AX, 0x0109), f(fA|fC))},
		{"DAA", []byte{0x27}, ahead(g(api.AX, 0x779b), f(fO)), both(g(api.AX, 0x7701), f(fO|fA|fC))},
		{"DAA with A", []byte{0x27}, ahead(g(api.AX, 0x7710), f(fA)), both(g(api.AX, 0x7716), f(fA))},
		{"DAS", []byte{0x2f}, ahead(g(api.AX, 0x77fa), f(fC)), both(g(api.AX, 0x7794), f(fA|fC|fS))},
		{"AAM", []byte{0xd4, 0x0a}, ahead(g(api.AX, 0xff3f), f(fC|fA|fO)), both(g(api.AX, 0x0603), f(fC|fA|fO|fP))},
		{"AAD", []byte{0xd5, 0x0a}, ahead(g(api.AX, 0x0603), f(beside|fC)), both(g(api.AX, 0x003f), f(beside|fC|fP))},
		{"AAD of nought", []byte{0xd5, 0x0a}, ahead(g(api.AX, 0)), both(g(api.AX, 0), f(fP|fZ))},
	})
}
