package omf

import (
	"bytes"
	"encoding/hex"
	"fmt"
	"slices"
	"strings"
	"testing"

	"hansom/api"
)

func TestWriteOfAlmostNothing(t *testing.T) {
	for _, c := range []struct {
		m    api.Module
		text string
	}{
		{api.Module{}, "80 0200 00 7e 8a 0200 00 74"},
		{api.Module{Name: "A"}, "80 0300 01 41 3b 8a 0200 00 74"},
		{api.Module{Name: "A", Names: []string{""}}, "80 0300 01 41 3b 96 0200 00 68 8a 0200 00 74"},
		{api.Module{Name: "A", Main: true}, "80 0300 01 41 3b 8a 0200 80 f4"},
	} {
		b, e := Write(c.m)
		if want := told(c.text); e != api.OK || !bytes.Equal(b, want) {
			t.Errorf("Write(%+v) is % x, %d; want % x", c.m, b, e, want)
		}
	}
}

func TestRecordsByHand(t *testing.T) {
	wantRows(t, "nothing", api.Module{}, []row{{0x80, "00"}, {0x8a, "00"}})
	wantRows(t, "the sample", sample(), sampleRows)
	wantRows(t, "empty lists", api.Module{Notes: []api.Comment{}, Names: []string{}, Segs: []api.SegDef{}, Groups: []api.GrpDef{}, Exts: []api.Ext{}, Pubs: []api.Pub{}, Datas: []api.Data{}}, []row{{0x80, "00"}, {0x8a, "00"}})
}

// changed is the sample's records, one of them another.
func changed(at int, text string) []row {
	l := slices.Clone(sampleRows)
	l[at].text = text
	return l
}

func TestRecordsOfEnds(t *testing.T) {
	for _, c := range []struct {
		what string
		do   func(m *api.Module)
		text string
	}{
		{"the main one that tells nothing", func(m *api.Module) { m.Is, m.Start = false, api.Fixup{} }, "80"},
		{"one that is neither", func(m *api.Module) { m.Main, m.Is, m.Start = false, false, api.Fixup{} }, "00"},
		{"one that begins, and is not the main one", func(m *api.Module) { m.Main = false }, "41 00 01 01 0800"},
		{"at nothing farther", func(m *api.Module) { m.Start.Disp = 0 }, "c1 04 01 01"},
		{"far on", func(m *api.Module) { m.Start.Disp = 0xfffe }, "c1 00 01 01 feff"},
		{"in the target's frame", func(m *api.Module) { frame(&m.Start, api.ByTarget, 0) }, "c1 50 01 0800"},
		{"in a group", func(m *api.Module) { frame(&m.Start, api.ByGroup, 2) }, "c1 10 02 01 0800"},
		{"in a name's frame", func(m *api.Module) { frame(&m.Start, api.ByExt, 3) }, "c1 20 03 01 0800"},
		{"at a group", func(m *api.Module) { target(&m.Start, api.ByGroup, 2) }, "c1 01 01 02 0800"},
		{"at a name", func(m *api.Module) { target(&m.Start, api.ByExt, 3) }, "c1 02 01 03 0800"},
		{"at a name in its own frame", func(m *api.Module) { m.Start = api.Fixup{Frame: api.ByTarget, Target: api.ByExt, N: 2} }, "c1 56 02"},
	} {
		wantRows(t, c.what, with(c.do), changed(len(sampleRows)-1, c.text))
	}
}

// lengths is names of such lengths.
func lengths(many ...int) []string {
	var l []string
	for i, n := range many {
		l = append(l, strings.Repeat(string(rune('a'+i%26)), n))
	}
	return l
}

// listed is the row of names.
func listed(l ...string) row {
	var b []byte
	for _, s := range l {
		b = append(append(b, byte(len(s))), s...)
	}
	return row{0x96, hex.EncodeToString(b)}
}

func TestRecordsOfNames(t *testing.T) {
	long := slices.Repeat([]int{255}, 15)
	for _, c := range []struct {
		what string
		l    []string
		cuts []int
	}{
		{"none", nil, nil},
		{"one of nothing", lengths(0), []int{1}},
		{"the longest", lengths(255), []int{1}},
		{"a full record", lengths(append(slices.Clone(long), 159)...), []int{16}},
		{"one byte less", lengths(append(slices.Clone(long), 158)...), []int{16}},
		{"one byte more", lengths(append(slices.Clone(long), 160)...), []int{15, 1}},
		{"one less, and one of nothing", lengths(append(slices.Clone(long), 158, 0)...), []int{17}},
		{"a full one, and one of nothing", lengths(append(slices.Clone(long), 159, 0)...), []int{16, 1}},
		{"a full one, and more", lengths(append(slices.Clone(long), 159, 3, 4, 5)...), []int{16, 3}},
		{"one that has no room, and one that would have", lengths(append(slices.Clone(long), 255, 100)...), []int{15, 2}},
		{"two full ones", lengths(slices.Concat(long, []int{159}, long, []int{159})...), []int{16, 16}},
		{"two full ones, and one", lengths(slices.Concat(long, []int{159}, long, []int{159}, []int{1})...), []int{16, 16, 1}},
		{"as many as may be, of nothing", lengths(make([]int, 256)...), []int{256}},
		{"as many as may be, the longest", lengths(slices.Repeat([]int{255}, 256)...), append(slices.Repeat([]int{15}, 17), 1)},
		{"a full one of short names", lengths(slices.Repeat([]int{15}, 250)...), []int{250}},
		{"more short names", lengths(slices.Repeat([]int{15}, 256)...), []int{250, 6}},
	} {
		rows := []row{{0x80, "00"}}
		rest := c.l
		for _, n := range c.cuts {
			rows = append(rows, listed(rest[:n]...))
			rest = rest[n:]
		}
		m := api.Module{Names: c.l}
		wantRows(t, c.what, m, append(rows, row{0x8a, "00"}))
		b := written(append(rows, row{0x8a, "00"})...)
		wantRead(t, c.what, b, m, len(b))
	}
}

func TestRecordsOfFixups(t *testing.T) {
	one := api.Fixup{At: 1020, Loc: api.LocPointer, Frame: api.ByExt, FrameN: 256, Target: api.ByExt, N: 255, Disp: 0x1234}
	for _, many := range []int{0, 1, 2, 255, 256} {
		m := api.Module{Segs: []api.SegDef{{Align: 1, Len: 1024}}, Exts: make([]api.Ext, 256), Datas: []api.Data{{Seg: 1, Bytes: make([]byte, 1024), Fixups: slices.Repeat([]api.Fixup{one}, many)}}}
		rows := []row{{0x80, "00"}, {0x98, "20 0004 00 00 00"}}
		rows = append(rows, slices.Repeat([]row{{0x8c, "00 00"}}, 256)...)
		rows = append(rows, row{0xa0, "01 0000" + strings.Repeat("00", 1024)})
		if many > 0 {
			rows = append(rows, row{0x9c, strings.Repeat("cffc 22 8100 80ff 3412", many)})
		}
		wantRows(t, fmt.Sprint(many, " fixups"), m, append(rows, row{0x8a, "00"}))
	}
	m := with(func(m *api.Module) { m.Datas[1].Fixups = []api.Fixup{} })
	wantRows(t, "an empty list of fixups", m, sampleRows)
}

func TestUnwrittenByCheck(t *testing.T) {
	for _, f := range faults() {
		wantUnwritten(t, f.what, with(f.do), f.e)
		// What Check tells is told ahead of names that are too long.
		wantUnwritten(t, f.what, with(func(m *api.Module) { f.do(m); m.Name = strings.Repeat("x", 256) }), f.e)
	}
	wantUnwritten(t, "a Start without Is", with(func(m *api.Module) { m.Is = false }), api.ErrForm)
}

func TestNamesThatAreTooLong(t *testing.T) {
	for what, set := range map[string]func(m *api.Module, s string){
		"the module's":      func(m *api.Module, s string) { m.Name = s },
		"the first name":    func(m *api.Module, s string) { m.Names[0] = s },
		"the last name":     func(m *api.Module, s string) { m.Names[3] = s },
		"one that is taken": func(m *api.Module, s string) { m.Exts[0].Name = s },
		"one that is near":  func(m *api.Module, s string) { m.Exts[1].Name = s },
		"one that is far":   func(m *api.Module, s string) { m.Exts[2].Name = s },
		"a given one":       func(m *api.Module, s string) { m.Pubs[0].Name = s },
		"the last given":    func(m *api.Module, s string) { m.Pubs[1].Name = s },
		"the first remark":  func(m *api.Module, s string) { m.Notes[0].Text = s },
		"the last remark":   func(m *api.Module, s string) { m.Notes[1].Text = s },
	} {
		for _, many := range []int{0, 1, 254, 255} {
			m := with(func(m *api.Module) { set(m, strings.Repeat("x", many)) })
			b, e := Write(m)
			if e != api.OK {
				t.Fatalf("%s of %d is %d", what, many, e)
			}
			wantRead(t, what, b, m, len(b))
		}
		for _, many := range []int{256, 257, 511, 512, 4000, 65536 + 3} {
			wantUnwritten(t, what, with(func(m *api.Module) { set(m, strings.Repeat("x", many)) }), api.ErrForm)
		}
	}
}

func TestDataThatMayNotBeWritten(t *testing.T) {
	one := api.Fixup{Frame: api.ByTarget, N: 1}
	for what, do := range map[string]func(m *api.Module){
		"no bytes":             func(m *api.Module) { m.Datas[0].Bytes, m.Datas[0].Fixups = nil, nil },
		"no bytes at the end":  func(m *api.Module) { m.Datas[2].Bytes, m.Datas[2].Fixups = []byte{}, nil },
		"1025 bytes":           func(m *api.Module) { m.Datas[1].Off, m.Datas[1].Bytes = 0, make([]byte, 1025) },
		"65536 bytes":          func(m *api.Module) { m.Datas[1].Off, m.Datas[1].Bytes = 0, make([]byte, 65536) },
		"257 fixups":           func(m *api.Module) { m.Datas[1].Fixups = slices.Repeat([]api.Fixup{one}, 257) },
		"257 at the beginning": func(m *api.Module) { m.Datas[0].Fixups = slices.Repeat([]api.Fixup{one}, 257) },
		"3000 fixups":          func(m *api.Module) { m.Datas[1].Fixups = slices.Repeat([]api.Fixup{one}, 3000) },
	} {
		wantCheck(t, what, with(do), api.OK)
		wantUnwritten(t, what, with(do), api.ErrForm)
	}
	m := with(func(m *api.Module) { m.Datas[1].Off, m.Datas[1].Bytes = 0xfc00, make([]byte, 1024) })
	wantRows(t, "1024 bytes", m, changed(16, "02 00fc"+strings.Repeat("00", 1024)))
}

func TestRecordsOfWhatIsTaken(t *testing.T) {
	for _, c := range []struct {
		x    api.Ext
		kind byte
		text string
	}{
		{api.Ext{}, 0x8c, "00 00"},
		{api.Ext{Name: "X"}, 0x8c, "0158 00"},
		{api.Ext{Com: 0x62}, 0xb0, "00 00 62 00"},
		{api.Ext{Name: "X", Com: 0x62, Len: 1}, 0xb0, "0158 00 62 01"},
		{api.Ext{Name: "X", Com: 0x62, Len: 128}, 0xb0, "0158 00 62 80"},
		{api.Ext{Name: "X", Com: 0x62, Len: 129}, 0xb0, "0158 00 62 818100"},
		{api.Ext{Name: "X", Com: 0x62, Len: 1<<20 - 1}, 0xb0, "0158 00 62 84ffff0f"},
		{api.Ext{Name: "X", Com: 0x62, Len: 1 << 20}, 0xb0, "0158 00 62 84000010"},
		{api.Ext{Com: 0x61}, 0xb0, "00 00 61 00 01"},
		{api.Ext{Name: "X", Com: 0x61, Len: 1}, 0xb0, "0158 00 61 01 01"},
		{api.Ext{Name: "X", Com: 0x61, Len: 65536}, 0xb0, "0158 00 61 84000001 01"},
		{api.Ext{Name: "X", Com: 0x61, Len: 1 << 20}, 0xb0, "0158 00 61 84000010 01"},
	} {
		m := api.Module{Exts: []api.Ext{{Name: "A"}, c.x}}
		rows := []row{{0x80, "00"}, {0x8c, "0141 00"}, {c.kind, c.text}, {0x8a, "00"}}
		wantRows(t, fmt.Sprint(c.x), m, rows)
		wantRead(t, fmt.Sprint(c.x), written(rows...), m, len(written(rows...)))
	}
}

func TestWhatMayNotBeTaken(t *testing.T) {
	for _, x := range []api.Ext{
		{Len: 1}, {Len: 1 << 20}, {Len: 1<<32 - 1}, {Name: "X", Len: 5},
		{Com: 0x62, Len: 1<<20 + 1}, {Com: 0x61, Len: 1<<20 + 1}, {Com: 0x62, Len: 1<<32 - 1}, {Com: 0x61, Len: 1 << 31}, {Com: 0x61, Len: 1<<21 + 5},
		{Com: 0x60}, {Com: 0x63}, {Com: 1}, {Com: -1}, {Com: 2, Len: 3}, {Com: 0x61 + 256, Len: 3}, {Com: 0x62 - 256, Len: 3}, {Com: 256}, {Com: 1<<32 + 0x62}, {Com: 0xb0}, {Com: 0x8c},
	} {
		for at := range 3 {
			m := with(func(m *api.Module) { m.Exts[at] = x })
			wantCheck(t, fmt.Sprint(x), m, api.OK)
			wantUnwritten(t, fmt.Sprint(x), m, api.ErrForm)
		}
	}
}

func TestRecordsOfWhatIsGiven(t *testing.T) {
	for _, c := range []struct {
		p    api.Pub
		text string
	}{
		{api.Pub{}, "00 00 0000 00 0000 00"},
		{api.Pub{Name: "X", Off: 0x1234}, "00 00 0000 0158 3412 00"},
		{api.Pub{Frame: 1, Name: "X"}, "00 00 0100 0158 0000 00"},
		{api.Pub{Frame: 0xffff, Name: "X", Off: 0xffff}, "00 00 ffff 0158 ffff 00"},
		{api.Pub{Group: 2, Frame: 0x0a0b, Name: "X"}, "02 00 0b0a 0158 0000 00"},
		{api.Pub{Seg: 3, Name: "X", Off: 5}, "00 03 0158 0500 00"},
		{api.Pub{Group: 1, Seg: 1, Name: "X", Off: 5}, "01 01 0158 0500 00"},
	} {
		wantRows(t, fmt.Sprint(c.p), with(func(m *api.Module) { m.Pubs[0] = c.p }), changed(12, c.text))
		wantRows(t, fmt.Sprint(c.p), with(func(m *api.Module) { m.Pubs[1] = c.p }), changed(13, c.text))
	}
	for _, p := range []api.Pub{{Seg: 1, Frame: 1}, {Seg: 3, Frame: 0xffff, Name: "X"}, {Group: 1, Seg: 2, Frame: 0x100, Name: "X"}} {
		for at := range 2 {
			m := with(func(m *api.Module) { m.Pubs[at] = p })
			wantCheck(t, fmt.Sprint(p), m, api.OK)
			wantUnwritten(t, fmt.Sprint(p), m, api.ErrForm)
		}
	}
}

// TestWriteOfAGroupThatIsTooLong has more segments in a group than a record has room for.
func TestWriteOfAGroupThatIsTooLong(t *testing.T) {
	m := with(func(m *api.Module) { m.Groups[1].Segs = slices.Repeat([]int{3}, 1999) })
	wantRows(t, "a group that just has room", m, changed(8, "01"+strings.Repeat("ff03", 1999)))
	m.Groups[1].Segs = append(m.Groups[1].Segs, 2)
	if b, e := Write(m); b != nil || e != api.ErrBig {
		t.Errorf("Write is %d bytes, %d; want none, %d", len(b), e, api.ErrBig)
	}
	l, e := Records(m)
	if e != api.OK || len(l) != len(sampleRows) || len(l[8].Body) != 4001 {
		t.Errorf("Records are %d, %d", len(l), e)
	}
}

// inIndex, inName, inWord and inLong are bytes of what records consist of, reckoned here.
func inIndex(n int) []byte {
	if n < 128 {
		return []byte{byte(n)}
	}
	return []byte{byte(n/256 + 128), byte(n % 256)}
}

func inName(s string) []byte { return append([]byte{byte(len(s))}, s...) }

func inWord(n int) []byte { return []byte{byte(n % 256), byte(n / 256)} }

func inLong(n int) []byte {
	switch {
	case n <= 128:
		return []byte{byte(n)}
	case n < 65536:
		return append([]byte{0x81}, inWord(n)...)
	}
	return append(append([]byte{0x84}, inWord(n%65536)...), byte(n/65536))
}

// inFixup is a fixup that may be.
func inFixup(f api.Fixup) []byte {
	b := []byte{byte(128 + 64 + 4*f.Loc + f.At/256), byte(f.At % 256), byte(16*f.Frame + f.Target + 4)}
	if f.Self {
		b[0] -= 64
	}
	if f.Frame < 3 {
		b = append(b, inIndex(f.FrameN)...)
	}
	b = append(b, inIndex(f.N)...)
	if f.Disp != 0 {
		b[2] -= 4
		b = append(b, inWord(int(f.Disp))...)
	}
	return b
}

func inSegment(s api.SegDef) []byte {
	b := []byte{byte(32*s.Align + 4*s.Combine)}
	if s.Len == 65536 {
		b[0] += 2
	}
	if s.Align == 0 {
		b = append(append(b, inWord(int(s.Frame))...), s.Offset)
	}
	b = append(b, inWord(s.Len%65536)...)
	return slices.Concat(b, inIndex(s.Name), inIndex(s.Class), inIndex(s.Overlay))
}

// writeModel is the bytes of a module that may be written, and has few names.
func writeModel(m api.Module) []byte {
	b := framed(0x80, inName(m.Name))
	put := func(kind byte, parts ...[]byte) { b = append(b, framed(kind, slices.Concat(parts...))...) }
	for _, c := range m.Notes {
		put(0x88, []byte{c.Flags, c.Class}, []byte(c.Text))
	}
	var names []byte
	for _, s := range m.Names {
		names = append(names, inName(s)...)
	}
	if len(names) > 0 {
		put(0x96, names)
	}
	for _, s := range m.Segs {
		put(0x98, inSegment(s))
	}
	for _, g := range m.Groups {
		body := inIndex(g.Name)
		for _, n := range g.Segs {
			body = append(append(body, 0xff), inIndex(n)...)
		}
		put(0x9a, body)
	}
	for _, x := range m.Exts {
		switch x.Com {
		case 0:
			put(0x8c, inName(x.Name), []byte{0})
		case 0x61:
			put(0xb0, inName(x.Name), []byte{0, 0x61}, inLong(int(x.Len)), []byte{1})
		default:
			put(0xb0, inName(x.Name), []byte{0, 0x62}, inLong(int(x.Len)))
		}
	}
	for _, p := range m.Pubs {
		var base []byte
		if p.Seg == 0 {
			base = inWord(int(p.Frame))
		}
		put(0x90, inIndex(p.Group), inIndex(p.Seg), base, inName(p.Name), inWord(int(p.Off)), []byte{0})
	}
	for _, d := range m.Datas {
		put(0xa0, inIndex(d.Seg), inWord(int(d.Off)), d.Bytes)
		var fixups []byte
		for _, f := range d.Fixups {
			fixups = append(fixups, inFixup(f)...)
		}
		if len(fixups) > 0 {
			put(0x9c, fixups)
		}
	}
	head := byte(0)
	if m.Main {
		head = 128
	}
	if !m.Is {
		put(0x8a, []byte{head})
		return b
	}
	put(0x8a, []byte{head + 65}, inFixup(m.Start)[2:])
	return b
}

func TestWriteBesideItsModel(t *testing.T) {
	d := drawer(7)
	for range 10000 {
		m := d.module()
		want := writeModel(m)
		b, e := Write(m)
		if e != api.OK || !bytes.Equal(b, want) {
			t.Fatalf("Write(%+v) is % x, %d; want % x", m, b, e, want)
		}
		l, e := Records(m)
		var all []byte
		for _, r := range l {
			all = append(all, framed(r.Kind, r.Body)...)
		}
		if e != api.OK || !bytes.Equal(all, want) {
			t.Fatalf("Records(%+v) are % x, %d; want % x", m, all, e, want)
		}
	}
}

// TestWriteOfAsMuchAsMayBe goes there and back with a module that is full.
func TestWriteOfAsMuchAsMayBe(t *testing.T) {
	m := sample()
	for _, g := range growths {
		g.grow(&m, g.most)
	}
	m.Segs[1].Combine = api.Private
	for i := range m.Datas {
		one := api.Fixup{At: i, Loc: i % 5, Frame: i % 3, FrameN: 1 + i%2, Target: (i + 1) % 3, N: 2, Disp: uint16(i)}
		m.Datas[i] = api.Data{Seg: 2, Off: uint16(i * 64), Bytes: bytes.Repeat([]byte{byte(i)}, 1024), Fixups: slices.Repeat([]api.Fixup{one}, 256)}
	}
	b, e := Write(m)
	if want := writeModel(m); e != api.OK || !bytes.Equal(b, want) {
		t.Fatalf("Write is %d bytes, %d; want %d", len(b), e, len(want))
	}
	wantRead(t, "a full module", b, m, len(b))
}
