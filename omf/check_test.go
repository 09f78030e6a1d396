package omf

import (
	"fmt"
	"slices"
	"testing"

	"hansom/api"
)

func TestCheckOfWhatMayBe(t *testing.T) {
	wantCheck(t, "nothing", api.Module{}, api.OK)
	wantCheck(t, "lists without anything", api.Module{Notes: []api.Comment{}, Names: []string{}, Segs: []api.SegDef{}, Groups: []api.GrpDef{}, Exts: []api.Ext{}, Pubs: []api.Pub{}, Datas: []api.Data{}}, api.OK)
	wantCheck(t, "the sample", sample(), api.OK)
	d := drawer(3)
	for range 3000 {
		wantCheck(t, "a drawn one", d.module(), api.OK)
	}
}

// grown is a module, with so many of something: what is put to it is right.
type grown struct {
	what string
	most int
	grow func(m *api.Module, many int)
}

// filled is a list, with the same at its end till there are so many.
func filled[T any](l []T, many int, one T) []T {
	for len(l) < many {
		l = append(l, one)
	}
	return l
}

var growths = []grown{
	{"segments", 64, func(m *api.Module, many int) { m.Segs = filled(m.Segs, many, api.SegDef{Align: api.AlignByte}) }},
	{"groups", 64, func(m *api.Module, many int) { m.Groups = filled(m.Groups, many, api.GrpDef{Name: 1}) }},
	{"names taken", 256, func(m *api.Module, many int) { m.Exts = filled(m.Exts, many, api.Ext{Name: "X"}) }},
	{"names given", 256, func(m *api.Module, many int) { m.Pubs = filled(m.Pubs, many, api.Pub{Name: "X"}) }},
	{"names", 256, func(m *api.Module, many int) { m.Names = filled(m.Names, many, "X") }},
	{"data", 512, func(m *api.Module, many int) {
		m.Datas = filled(m.Datas, many, api.Data{Seg: 2, Bytes: []byte{1}})
	}},
}

func TestCheckOfMany(t *testing.T) {
	for _, g := range growths {
		for _, c := range []struct {
			many int
			want api.Errno
		}{{g.most - 1, api.OK}, {g.most, api.OK}, {g.most + 1, api.ErrBig}, {g.most + 2, api.ErrBig}, {10 * g.most, api.ErrBig}} {
			wantCheck(t, fmt.Sprint(c.many, " ", g.what), with(func(m *api.Module) { g.grow(m, c.many) }), c.want)
		}
	}
	most := with(func(m *api.Module) {
		for _, g := range growths {
			g.grow(m, g.most)
		}
	})
	wantCheck(t, "as many of each as there may be", most, api.OK)
}

// TestCheckOfWhatIsNotCounted has more of what there is no limit of.
func TestCheckOfWhatIsNotCounted(t *testing.T) {
	m := sample()
	m.Notes = make([]api.Comment, 3000)
	m.Groups[0].Segs = slices.Repeat([]int{1, 3, 2}, 3000)
	m.Datas[0].Fixups = slices.Repeat(m.Datas[0].Fixups, 3000)
	m.Name = string(make([]byte, 70000))
	m.Names[1] = m.Name
	wantCheck(t, "much else", m, api.OK)
}

// TestCheckOfEachIndexBesideItsLimit has all indices of a module with as much as there may be.
func TestCheckOfEachIndexBesideItsLimit(t *testing.T) {
	most := func(change func(*api.Module)) api.Module {
		return with(func(m *api.Module) {
			for _, g := range growths {
				g.grow(m, g.most)
			}
			change(m)
		})
	}
	for _, c := range []struct {
		what string
		last int
		set  func(m *api.Module, n int)
	}{
		{"a segment's name", 256, func(m *api.Module, n int) { m.Segs[63].Name = n }},
		{"a segment's class", 256, func(m *api.Module, n int) { m.Segs[63].Class = n }},
		{"a segment's overlay", 256, func(m *api.Module, n int) { m.Segs[63].Overlay = n }},
		{"a group's name", 256, func(m *api.Module, n int) { m.Groups[63].Name = n }},
		{"a group's segment", 64, func(m *api.Module, n int) { m.Groups[63].Segs = []int{1, n} }},
		{"a given name's group", 64, func(m *api.Module, n int) { m.Pubs[255].Group = n }},
		{"a given name's segment", 64, func(m *api.Module, n int) { m.Pubs[255].Seg = n }},
	} {
		wantCheck(t, c.what, most(func(m *api.Module) { c.set(m, c.last) }), api.OK)
		wantCheck(t, c.what, most(func(m *api.Module) { c.set(m, c.last+1) }), api.ErrIndex)
	}
}

func TestCheckOfSegmentsThatMayNotBe(t *testing.T) {
	for i := range 3 {
		for what, spoil := range map[string]func(*api.SegDef){
			"Align -1":           func(s *api.SegDef) { s.Align = -1 },
			"Align 5":            func(s *api.SegDef) { s.Align = 5 },
			"Combine 1":          func(s *api.SegDef) { s.Combine = 1 },
			"Combine 7":          func(s *api.SegDef) { s.Combine = 7 },
			"Len -1":             func(s *api.SegDef) { s.Len = -1 },
			"Len 65537":          func(s *api.SegDef) { s.Len = 65537 },
			"Frame without At":   func(s *api.SegDef) { s.Align, s.Frame = 1, 1 },
			"Offset without At":  func(s *api.SegDef) { s.Align, s.Offset = 1, 1 },
			"Name below 0":       func(s *api.SegDef) { s.Name = -1 },
			"Class below 0":      func(s *api.SegDef) { s.Class = -1 },
			"Overlay below 0":    func(s *api.SegDef) { s.Overlay = -1 },
			"Name above all":     func(s *api.SegDef) { s.Name = 32768 },
			"Class above all":    func(s *api.SegDef) { s.Class = 32768 },
			"Overlay above all":  func(s *api.SegDef) { s.Overlay = 32768 },
			"and a class beside": func(s *api.SegDef) { s.Len, s.Class = -1, 5 },
		} {
			wantCheck(t, what, with(func(m *api.Module) { spoil(&m.Segs[i]) }), api.ErrForm)
		}
	}
}

// spot is where an index stands in the sample, the last one that may stand there, whether 0 may, and what is told of one that may not be any index.
type spot struct {
	what   string
	last   int
	nought bool
	others api.Errno
	set    func(m *api.Module, n int)
}

var spots = []spot{
	{"a segment's name", 4, true, api.ErrForm, func(m *api.Module, n int) { m.Segs[0].Name = n }},
	{"a segment's class", 4, true, api.ErrForm, func(m *api.Module, n int) { m.Segs[1].Class = n }},
	{"a segment's overlay", 4, true, api.ErrForm, func(m *api.Module, n int) { m.Segs[2].Overlay = n }},
	{"the last segment's name", 4, true, api.ErrForm, func(m *api.Module, n int) { m.Segs[2].Name = n }},
	{"a group's name", 4, false, api.ErrIndex, func(m *api.Module, n int) { m.Groups[0].Name = n }},
	{"the last group's name", 4, false, api.ErrIndex, func(m *api.Module, n int) { m.Groups[1].Name = n }},
	{"a group's first segment", 3, false, api.ErrIndex, func(m *api.Module, n int) { m.Groups[0].Segs[0] = n }},
	{"a group's last segment", 3, false, api.ErrIndex, func(m *api.Module, n int) { m.Groups[0].Segs[1] = n }},
	{"the last group's segment", 3, false, api.ErrIndex, func(m *api.Module, n int) { m.Groups[1].Segs = []int{n} }},
	{"a given name's group", 2, true, api.ErrIndex, func(m *api.Module, n int) { m.Pubs[0].Group = n }},
	{"a given name's segment", 3, true, api.ErrIndex, func(m *api.Module, n int) { m.Pubs[0].Seg = n }},
	{"the last given name's group", 2, true, api.ErrIndex, func(m *api.Module, n int) { m.Pubs[1].Group = n }},
	{"the last given name's segment", 3, true, api.ErrIndex, func(m *api.Module, n int) { m.Pubs[1].Seg = n }},
	{"a data's segment", 3, false, api.ErrIndex, func(m *api.Module, n int) { m.Datas[0].Seg = n }},
	{"the last data's segment", 3, false, api.ErrIndex, func(m *api.Module, n int) { m.Datas[2].Seg = n }},
	{"a frame's segment", 3, false, api.ErrIndex, fixing(0, 0, frame, api.BySeg)},
	{"a frame's group", 2, false, api.ErrIndex, fixing(0, 1, frame, api.ByGroup)},
	{"a frame's name", 3, false, api.ErrIndex, fixing(0, 0, frame, api.ByExt)},
	{"the last frame's group", 2, false, api.ErrIndex, fixing(2, 0, frame, api.ByGroup)},
	{"a target's segment", 3, false, api.ErrIndex, fixing(0, 0, target, api.BySeg)},
	{"a target's group", 2, false, api.ErrIndex, fixing(0, 1, target, api.ByGroup)},
	{"a target's name", 3, false, api.ErrIndex, fixing(0, 0, target, api.ByExt)},
	{"the last target's name", 3, false, api.ErrIndex, fixing(2, 0, target, api.ByExt)},
	{"the beginning's frame's segment", 3, false, api.ErrIndex, func(m *api.Module, n int) { frame(&m.Start, api.BySeg, n) }},
	{"the beginning's frame's group", 2, false, api.ErrIndex, func(m *api.Module, n int) { frame(&m.Start, api.ByGroup, n) }},
	{"the beginning's frame's name", 3, false, api.ErrIndex, func(m *api.Module, n int) { frame(&m.Start, api.ByExt, n) }},
	{"the beginning's segment", 3, false, api.ErrIndex, func(m *api.Module, n int) { target(&m.Start, api.BySeg, n) }},
	{"the beginning's group", 2, false, api.ErrIndex, func(m *api.Module, n int) { target(&m.Start, api.ByGroup, n) }},
	{"the beginning's name", 3, false, api.ErrIndex, func(m *api.Module, n int) { target(&m.Start, api.ByExt, n) }},
}

func frame(f *api.Fixup, by, n int) { f.Frame, f.FrameN = by, n }

func target(f *api.Fixup, by, n int) { f.Target, f.N = by, n }

// fixing sets an index of a fixup of the sample's.
func fixing(data, at int, set func(f *api.Fixup, by, n int), by int) func(*api.Module, int) {
	return func(m *api.Module, n int) { set(&m.Datas[data].Fixups[at], by, n) }
}

func TestCheckOfIndices(t *testing.T) {
	for _, c := range spots {
		for n := range c.last + 4 {
			want := api.OK
			if n > c.last || n == 0 && !c.nought {
				want = api.ErrIndex
			}
			wantCheck(t, fmt.Sprint(c.what, " ", n), with(func(m *api.Module) { c.set(m, n) }), want)
		}
		wantCheck(t, c.what, with(func(m *api.Module) { c.set(m, 32767) }), api.ErrIndex)
		for _, n := range far {
			wantCheck(t, fmt.Sprint(c.what, " ", n), with(func(m *api.Module) { c.set(m, n) }), c.others)
		}
	}
}

// TestCheckOfNothingThere has each index 1 in a module that has none of it.
func TestCheckOfNothingThere(t *testing.T) {
	segs := []api.SegDef{{Align: 1, Len: 8}}
	data := func(f api.Fixup) api.Module {
		return api.Module{Segs: segs, Datas: []api.Data{{Seg: 1, Bytes: make([]byte, 4), Fixups: []api.Fixup{f}}}}
	}
	start := func(f api.Fixup) api.Module { return api.Module{Segs: segs, Is: true, Start: f} }
	for what, m := range map[string]api.Module{
		"a segment's name":       {Segs: []api.SegDef{{Align: 1, Name: 1}}},
		"a group's name":         {Groups: []api.GrpDef{{Name: 1}}},
		"a group's segment":      {Names: []string{""}, Groups: []api.GrpDef{{Name: 1, Segs: []int{1}}}},
		"a given name's group":   {Pubs: []api.Pub{{Group: 1}}},
		"a given name's segment": {Pubs: []api.Pub{{Seg: 1}}},
		"a data's segment":       {Datas: []api.Data{{Seg: 1, Bytes: []byte{1}}}},
		"a frame's group":        data(api.Fixup{Frame: api.ByGroup, FrameN: 1, N: 1}),
		"a frame's name":         data(api.Fixup{Frame: api.ByExt, FrameN: 1, N: 1}),
		"a target's group":       data(api.Fixup{Frame: api.ByTarget, Target: api.ByGroup, N: 1}),
		"a target's name":        data(api.Fixup{Frame: api.ByTarget, Target: api.ByExt, N: 1}),
		"a beginning's segment":  {Is: true, Start: api.Fixup{Frame: api.ByTarget, N: 1}},
		"a beginning's group":    start(api.Fixup{Frame: api.ByTarget, Target: api.ByGroup, N: 1}),
		"a beginning's name":     start(api.Fixup{Frame: api.ByExt, FrameN: 1, N: 1}),
	} {
		wantCheck(t, what, m, api.ErrIndex)
	}
	wantCheck(t, "a frame that has no index", data(api.Fixup{Frame: api.ByTarget, N: 1}), api.OK)
	wantCheck(t, "a beginning's that has none", start(api.Fixup{Frame: api.ByTarget, N: 1}), api.OK)
}

func TestCheckOfDatasEnds(t *testing.T) {
	for _, c := range []struct {
		length, off, many int
		want              api.Errno
	}{
		{0, 0, 0, api.OK}, {0, 0, 1, api.ErrForm}, {0, 1, 0, api.ErrForm}, {1, 0, 1, api.OK}, {1, 1, 0, api.OK}, {1, 1, 1, api.ErrForm}, {1, 0, 2, api.ErrForm},
		{100, 90, 10, api.OK}, {100, 90, 11, api.ErrForm}, {100, 91, 10, api.ErrForm}, {100, 0, 100, api.OK}, {100, 0, 101, api.ErrForm},
		{65535, 65534, 1, api.OK}, {65535, 65535, 1, api.ErrForm}, {65535, 65534, 2, api.ErrForm}, {65536, 65535, 1, api.OK}, {65536, 65535, 2, api.ErrForm},
		{65536, 64512, 1024, api.OK}, {65536, 64513, 1024, api.ErrForm}, {65536, 0, 65536, api.OK}, {65536, 0, 65537, api.ErrForm}, {65536, 1, 65536, api.ErrForm},
		// Data that are longer than records have them may be.
		{5000, 0, 5000, api.OK}, {5000, 1, 5000, api.ErrForm}, {4999, 0, 5000, api.ErrForm},
	} {
		m := api.Module{Segs: []api.SegDef{{Align: 1, Len: 1 << 16}, {Align: 1, Len: c.length}}, Datas: []api.Data{{Seg: 1, Bytes: []byte{1}}, {Seg: 2, Off: uint16(c.off), Bytes: make([]byte, c.many)}}}
		wantCheck(t, fmt.Sprint(c), m, c.want)
	}
}

func TestCheckOfFixupsThatMayNotBe(t *testing.T) {
	for what, spoil := range map[string]func(*api.Fixup){
		"At -1":                 func(f *api.Fixup) { f.At = -1 },
		"At 1024":               func(f *api.Fixup) { f.At = 1024 },
		"Loc -1":                func(f *api.Fixup) { f.Loc = -1 },
		"Loc 5":                 func(f *api.Fixup) { f.Loc = 5 },
		"a base by itself":      func(f *api.Fixup) { f.Loc, f.Self = api.LocBase, true },
		"frame -1":              func(f *api.Fixup) { f.Frame = -1 },
		"frame 3":               func(f *api.Fixup) { f.Frame = 3 },
		"frame 6":               func(f *api.Fixup) { f.Frame = 6 },
		"frame 3 of nothing":    func(f *api.Fixup) { f.Frame, f.FrameN = 3, 99 },
		"here with an index":    func(f *api.Fixup) { f.Frame, f.FrameN = api.ByHere, 1 },
		"target's with one":     func(f *api.Fixup) { f.Frame, f.FrameN = api.ByTarget, 1 },
		"target's of nothing":   func(f *api.Fixup) { f.Frame, f.FrameN = api.ByTarget, 99 },
		"target -1":             func(f *api.Fixup) { f.Target = -1 },
		"target 3":              func(f *api.Fixup) { f.Target = 3 },
		"target here":           func(f *api.Fixup) { f.Target = api.ByHere },
		"target of its own":     func(f *api.Fixup) { f.Target = api.ByTarget },
		"target 3 of nothing":   func(f *api.Fixup) { f.Target, f.N = 3, 99 },
		"target of no index":    func(f *api.Fixup) { f.Target, f.N = api.ByHere, 0 },
		"all of it, and others": func(f *api.Fixup) { *f = api.Fixup{At: -1, Loc: 9, Self: true, Frame: 7, Target: 8} },
	} {
		for _, at := range []struct{ data, fixup int }{{0, 0}, {0, 1}, {2, 0}} {
			wantCheck(t, what, with(func(m *api.Module) { spoil(&m.Datas[at.data].Fixups[at.fixup]) }), api.ErrForm)
		}
	}
}

// TestCheckOfFixupsAtTheDatasEnd has them asked of how many bytes there are.
func TestCheckOfFixupsAtTheDatasEnd(t *testing.T) {
	for loc, size := range []int{1, 2, 2, 4, 1} {
		for _, many := range []int{4, 5, 100, 1023, 1024, 1025, 1027, 1028, 2000} {
			for at := max(0, many-6); at < many+2; at++ {
				want := api.OK
				if at > 1023 || at+size > many {
					want = api.ErrForm
				}
				f := api.Fixup{At: at, Loc: loc, Frame: api.ByTarget, N: 1}
				m := api.Module{Segs: []api.SegDef{{Align: 1, Len: 4000}}, Datas: []api.Data{{Seg: 1, Bytes: make([]byte, many), Fixups: []api.Fixup{f}}}}
				wantCheck(t, fmt.Sprint("kind ", loc, " at ", at, " of ", many), m, want)
			}
		}
	}
}

func TestCheckOfTheBeginning(t *testing.T) {
	for by := -1; by <= 6; by++ {
		framed, targeted := api.ErrForm, api.ErrForm
		n := 0
		if by >= 0 && by <= 2 {
			framed, targeted, n = api.OK, api.OK, 1
		}
		if by == api.ByTarget {
			framed = api.OK
		}
		wantCheck(t, fmt.Sprint("frame ", by), with(func(m *api.Module) { frame(&m.Start, by, n) }), framed)
		wantCheck(t, fmt.Sprint("target ", by), with(func(m *api.Module) { target(&m.Start, by, 1) }), targeted)
	}
	for what, spoil := range map[string]func(*api.Fixup){
		"At 1":               func(f *api.Fixup) { f.At = 1 },
		"At -1":              func(f *api.Fixup) { f.At = -1 },
		"Loc 1":              func(f *api.Fixup) { f.Loc = 1 },
		"Loc 4":              func(f *api.Fixup) { f.Loc = 4 },
		"Loc -1":             func(f *api.Fixup) { f.Loc = -1 },
		"Self":               func(f *api.Fixup) { f.Self = true },
		"an index of none":   func(f *api.Fixup) { f.Frame = api.ByTarget },
		"here with an index": func(f *api.Fixup) { f.Frame, f.FrameN = api.ByHere, 9 },
	} {
		wantCheck(t, what, with(func(m *api.Module) { spoil(&m.Start) }), api.ErrForm)
	}
	for _, disp := range []uint16{0, 1, 0x7fff, 0x8000, 0xffff} {
		wantCheck(t, "Disp", with(func(m *api.Module) { m.Start.Disp = disp }), api.OK)
	}
	wantCheck(t, "a beginning that is none", with(func(m *api.Module) { m.Start = api.Fixup{} }), api.ErrIndex)
	wantCheck(t, "one that is not the main one", with(func(m *api.Module) { m.Main = false }), api.OK)
}

func TestCheckOfAStartWithoutIs(t *testing.T) {
	for what, f := range map[string]api.Fixup{
		"as it was": sample().Start, "At": {At: 1}, "Loc": {Loc: 1}, "Self": {Self: true}, "Frame": {Frame: 1}, "its index": {FrameN: 1}, "Target": {Target: 1}, "its": {N: 1}, "Disp": {Disp: 1}, "nothing there": {N: 99},
	} {
		wantCheck(t, what, with(func(m *api.Module) { m.Is, m.Start = false, f }), api.ErrForm)
		wantCheck(t, what, api.Module{Start: f}, api.ErrForm)
	}
	wantCheck(t, "none", with(func(m *api.Module) { m.Is, m.Start = false, api.Fixup{} }), api.OK)
	wantCheck(t, "none, and the main one", api.Module{Main: true}, api.OK)
}

// fault is something wrong: what is told ahead of others has a lower rank.
type fault struct {
	what string
	rank int
	e    api.Errno
	do   func(m *api.Module)
}

func faults() []fault {
	l := []fault{
		{"first segment's length", 20, api.ErrForm, func(m *api.Module) { m.Segs[0].Len = -1 }},
		{"first segment's name", 21, api.ErrIndex, func(m *api.Module) { m.Segs[0].Name = 999 }},
		{"second segment's kind", 22, api.ErrForm, func(m *api.Module) { m.Segs[1].Combine = 3 }},
		{"second segment's class", 23, api.ErrIndex, func(m *api.Module) { m.Segs[1].Class = 999 }},
		{"group's name", 30, api.ErrIndex, func(m *api.Module) { m.Groups[0].Name = 0 }},
		{"group's segment", 30, api.ErrIndex, func(m *api.Module) { m.Groups[1].Segs = []int{999} }},
		{"given name's group", 31, api.ErrIndex, func(m *api.Module) { m.Pubs[0].Group = 999 }},
		{"given name's segment", 31, api.ErrIndex, func(m *api.Module) { m.Pubs[1].Seg = 999 }},
		{"first data's segment", 40, api.ErrIndex, func(m *api.Module) { m.Datas[0].Seg = 0 }},
		{"first data's last target", 40, api.ErrIndex, func(m *api.Module) { m.Datas[0].Fixups[1].N = 999 }},
		{"first data's offset", 41, api.ErrForm, func(m *api.Module) { m.Datas[0].Off = 65535 }},
		{"first data's first fixup", 41, api.ErrForm, func(m *api.Module) { m.Datas[0].Fixups[0].Loc = 9 }},
		{"last data's frame", 42, api.ErrIndex, func(m *api.Module) { frame(&m.Datas[2].Fixups[0], api.ByExt, 999) }},
		{"last data's bytes", 43, api.ErrForm, func(m *api.Module) { m.Datas[2].Bytes = make([]byte, 70000) }},
		{"beginning's frame", 50, api.ErrIndex, func(m *api.Module) { m.Start.FrameN = 999 }},
		{"beginning's place", 51, api.ErrForm, func(m *api.Module) { m.Start.At = 1 }},
		{"beginning's kind", 51, api.ErrForm, func(m *api.Module) { m.Start.Target = 3 }},
	}
	for _, g := range growths {
		l = append(l, fault{g.what, 10, api.ErrBig, func(m *api.Module) { g.grow(m, g.most+1) }})
	}
	return l
}

func TestCheckTellsWhatIsNamedFirst(t *testing.T) {
	for _, a := range faults() {
		wantCheck(t, a.what, with(a.do), a.e)
		for _, b := range faults() {
			want := a.e
			if b.rank < a.rank {
				want = b.e
			}
			wantCheck(t, a.what+", "+b.what, with(func(m *api.Module) { a.do(m); b.do(m) }), want)
		}
	}
	for _, a := range faults() {
		if a.rank < 50 {
			wantCheck(t, a.what+", a Start without Is", with(func(m *api.Module) { a.do(m); m.Is = false }), a.e)
		}
	}
}

// checkModel has all that is wrong told in order, and takes the first of it.
func checkModel(m api.Module) api.Errno {
	var l []api.Errno
	wrong := func(is bool, e api.Errno) {
		if is {
			l = append(l, e)
		}
	}
	missing := func(n, many int) bool { return n < 1 || many < n }
	lost := func(by, n int) bool {
		many := map[int]int{api.BySeg: len(m.Segs), api.ByGroup: len(m.Groups), api.ByExt: len(m.Exts)}
		_, indexed := many[by]
		return indexed && missing(n, many[by])
	}
	wrong(len(m.Segs) > 64 || len(m.Groups) > 64 || len(m.Exts) > 256 || len(m.Pubs) > 256 || len(m.Names) > 256 || len(m.Datas) > 512, api.ErrBig)
	for _, s := range m.Segs {
		fixed := s.Align == 0 || s.Frame == 0 && s.Offset == 0
		low, high := min(s.Name, s.Class, s.Overlay), max(s.Name, s.Class, s.Overlay)
		wrong(s.Align < 0 || s.Align > 4 || !slices.Contains([]int{0, 2, 5, 6}, s.Combine) || !fixed || s.Len < 0 || s.Len > 65536 || low < 0 || high > 32767, api.ErrForm)
		wrong(high > len(m.Names), api.ErrIndex)
	}
	for _, g := range m.Groups {
		wrong(missing(g.Name, len(m.Names)), api.ErrIndex)
		for _, n := range g.Segs {
			wrong(missing(n, len(m.Segs)), api.ErrIndex)
		}
	}
	for _, p := range m.Pubs {
		wrong(p.Group != 0 && missing(p.Group, len(m.Groups)), api.ErrIndex)
		wrong(p.Seg != 0 && missing(p.Seg, len(m.Segs)), api.ErrIndex)
	}
	for _, d := range m.Datas {
		gone := missing(d.Seg, len(m.Segs))
		wrong(gone, api.ErrIndex)
		for _, f := range d.Fixups {
			wrong(lost(f.Frame, f.FrameN) || lost(f.Target, f.N), api.ErrIndex)
		}
		wrong(!gone && len(d.Bytes) > m.Segs[max(0, d.Seg-1)].Len-int(d.Off), api.ErrForm)
		for _, f := range d.Fixups {
			wrong(!mayModel(f, len(d.Bytes)), api.ErrForm)
		}
	}
	if m.Is {
		f := m.Start
		wrong(lost(f.Frame, f.FrameN) || lost(f.Target, f.N), api.ErrIndex)
		wrong(f.Loc != 0 || f.At != 0 || f.Self || f.Frame == api.ByHere || !mayModel(f, 1), api.ErrForm)
	}
	wrong(!m.Is && m.Start != api.Fixup{}, api.ErrForm)
	return append(l, api.OK)[0]
}

// mayModel asks each thing of a fixup apart.
func mayModel(f api.Fixup, n int) bool {
	size := map[int]int{0: 1, 1: 2, 2: 2, 3: 4, 4: 1}[f.Loc]
	frameN := 0 < f.FrameN && f.FrameN < 32768
	if f.Frame == api.ByHere || f.Frame == api.ByTarget {
		frameN = f.FrameN == 0
	}
	frames := slices.Contains([]int{0, 1, 2, 4, 5}, f.Frame)
	targets := slices.Contains([]int{0, 1, 2}, f.Target) && 0 < f.N && f.N < 32768
	return size > 0 && (!f.Self || f.Loc < 2) && f.At >= 0 && f.At < 1024 && f.At <= n-size && frames && frameN && targets
}

// spoilt changes something of a module, to what may be or what may not.
func (d *drawer) spoilt(m *api.Module) {
	n := []int{-1, 0, 1, 2, 3, 4, 5, 32767, 32768}[d.below(9)]
	s := &m.Segs[d.below(len(m.Segs))]
	f := &m.Start
	if len(m.Datas) > 0 {
		x := &m.Datas[d.below(len(m.Datas))]
		if d.below(8) == 0 {
			x.Seg = n
		}
		if len(x.Fixups) > 0 && d.below(3) > 0 {
			f = &x.Fixups[d.below(len(x.Fixups))]
		}
	}
	switch d.below(16) {
	case 0:
		s.Name = n
	case 1:
		s.Class = n
	case 2:
		s.Overlay = n
	case 3:
		s.Len = d.below(100) - 1
	case 4:
		s.Align = d.below(7) - 1
	case 5:
		m.Groups = append(m.Groups, api.GrpDef{Name: n, Segs: []int{1}})
	case 6:
		m.Groups = append(m.Groups, api.GrpDef{Name: 1, Segs: []int{1, n}})
	case 7:
		m.Pubs = append(m.Pubs, api.Pub{Group: n})
	case 8:
		m.Pubs = append(m.Pubs, api.Pub{Seg: n})
	case 9:
		f.N = n
	case 10:
		f.FrameN = n
	case 11:
		f.Frame = d.below(8) - 1
	case 12:
		f.Target = d.below(6) - 1
	case 13:
		f.At = d.below(20) - 1
	case 14:
		f.Loc, f.Self = d.below(7)-1, d.below(2) == 0
	case 15:
		m.Is = d.below(2) == 0
	}
}

func TestCheckBesideItsModel(t *testing.T) {
	d := drawer(5)
	seen := map[api.Errno]int{}
	for range 20000 {
		m := d.module()
		for range d.below(4) {
			d.spoilt(&m)
		}
		want := checkModel(m)
		wantCheck(t, fmt.Sprintf("%+v", m), m, want)
		seen[want]++
	}
	for _, e := range []api.Errno{api.OK, api.ErrForm, api.ErrIndex} {
		if seen[e] < 2000 {
			t.Errorf("%d of them are %d", seen[e], e)
		}
	}
}
