package fixup

import (
	"bytes"
	"math"
	"testing"

	"hansom/api"
)

// byHand are fixups, and their bytes.
var byHand = []struct {
	f    api.Fixup
	text string
}{
	{api.Fixup{At: 300, Loc: api.LocOffset, Frame: api.ByTarget, Target: api.ByExt, N: 3, Disp: 9}, "c52c 52 03 0900"},
	{api.Fixup{Loc: api.LocOffset, Frame: api.ByTarget, Target: api.BySeg, N: 1}, "c400 54 01"},
	{api.Fixup{Loc: api.LocLow, Frame: api.ByTarget, Target: api.BySeg, N: 1}, "c000 54 01"},
	{api.Fixup{Loc: api.LocBase, Frame: api.ByTarget, Target: api.BySeg, N: 1}, "c800 54 01"},
	{api.Fixup{Loc: api.LocPointer, Frame: api.ByTarget, Target: api.BySeg, N: 1}, "cc00 54 01"},
	{api.Fixup{Loc: api.LocHigh, Frame: api.ByTarget, Target: api.BySeg, N: 1}, "d000 54 01"},
	{api.Fixup{Loc: api.LocOffset, Self: true, Frame: api.ByHere, Target: api.ByExt, N: 2}, "8400 46 02"},
	{api.Fixup{Loc: api.LocLow, Self: true, Frame: api.ByHere, Target: api.ByExt, N: 2}, "8000 46 02"},
	{api.Fixup{At: 1023, Loc: api.LocLow, Self: true, Frame: api.ByHere, Target: api.ByGroup, N: 127, Disp: 0xffff}, "83ff 41 7f ffff"},
	{api.Fixup{At: 1023, Loc: api.LocHigh, Frame: api.ByHere, Target: api.ByGroup, N: 128, Disp: 0x0100}, "d3ff 41 8080 0001"},
	{api.Fixup{At: 255, Loc: api.LocPointer, Frame: api.BySeg, FrameN: 1, Target: api.ByGroup, N: 2}, "ccff 05 01 02"},
	{api.Fixup{At: 256, Loc: api.LocPointer, Frame: api.ByGroup, FrameN: 300, Target: api.BySeg, N: 128, Disp: 1}, "cd00 10 812c 8080 0100"},
	{api.Fixup{At: 511, Loc: api.LocBase, Frame: api.ByExt, FrameN: 32767, Target: api.ByExt, N: 32767, Disp: 0x1234}, "c9ff 22 ffff ffff 3412"},
	{api.Fixup{At: 512, Loc: api.LocBase, Frame: api.ByExt, FrameN: 127, Target: api.ByExt, N: 1}, "ca00 26 7f 01"},
	{api.Fixup{At: 767, Loc: api.LocOffset, Frame: api.ByGroup, FrameN: 2, Target: api.ByGroup, N: 3}, "c6ff 15 02 03"},
	{api.Fixup{At: 768, Loc: api.LocOffset, Frame: api.BySeg, FrameN: 2, Target: api.BySeg, N: 3, Disp: 0x00ff}, "c700 00 02 03 ff00"},
}

func TestPutByHand(t *testing.T) {
	for _, c := range byHand {
		wantPut(t, c.f, told(t, c.text))
	}
}

func TestPutOfIndices(t *testing.T) {
	for _, c := range inds {
		wantPut(t, with(func(f *api.Fixup) { f.N = c.n }), told(t, "c400 54"+c.text))
		wantPut(t, with(func(f *api.Fixup) { f.N, f.Disp = c.n, 5 }), told(t, "c400 50"+c.text+"0500"))
		wantPut(t, with(func(f *api.Fixup) { f.Frame, f.FrameN = api.BySeg, c.n }), told(t, "c400 04"+c.text+"01"))
		wantPut(t, with(func(f *api.Fixup) { f.Frame, f.FrameN, f.N, f.Disp = api.ByGroup, c.n, c.n, 5 }), told(t, "c400 10"+c.text+c.text+"0500"))
		wantPut(t, with(func(f *api.Fixup) { f.Frame, f.FrameN, f.Target = api.ByExt, c.n, api.ByExt }), told(t, "c400 26"+c.text+"01"))
	}
}

func TestPutOfEachPlace(t *testing.T) {
	for at := range 1024 {
		wantPut(t, with(func(f *api.Fixup) { f.At = at }), []byte{byte(0xc4 + at/256), byte(at % 256), 0x54, 1})
		wantPut(t, with(func(f *api.Fixup) { f.At, f.Self = at, true }), []byte{byte(0x84 + at/256), byte(at % 256), 0x54, 1})
	}
}

func TestPutOfEachDisp(t *testing.T) {
	wantPut(t, plain, []byte{0xc4, 0, 0x54, 1})
	for disp := 1; disp < 65536; disp++ {
		wantPut(t, with(func(f *api.Fixup) { f.Disp = uint16(disp) }), []byte{0xc4, 0, 0x50, 1, byte(disp % 256), byte(disp / 256)})
	}
}

// TestPutBesideTheModel has each kind with each frame and target, and drawn ones.
func TestPutBesideTheModel(t *testing.T) {
	for loc := range 5 {
		for _, frame := range []int{0, 1, 2, 4, 5} {
			for target := range 3 {
				for i := range 4 {
					f := api.Fixup{At: 515, Loc: loc, Self: i&1 != 0, Frame: frame, Target: target, N: 77, Disp: uint16(i >> 1 * 2571)}
					if frame < 3 {
						f.FrameN = 1029
					}
					wantPut(t, f, putModel(f))
				}
			}
		}
	}
	d := drawer(73)
	for range 30000 {
		f := d.good()
		wantPut(t, f, putModel(f))
	}
}

// TestPutOfWhatMayNotBe has numbers beyond: each counts as the nearest, an index as 0.
func TestPutOfWhatMayNotBe(t *testing.T) {
	for _, n := range append(far, -1, -2, 1024, 1025, 32768, 65535) {
		nearest := 0
		if n > 0 {
			nearest = math.MaxInt
		}
		wantPut(t, with(func(f *api.Fixup) { f.At = n }), putModel(with(func(f *api.Fixup) { f.At = min(nearest, 1023) })))
		wantPut(t, with(func(f *api.Fixup) { f.Loc = n }), putModel(with(func(f *api.Fixup) { f.Loc = min(nearest, 4) })))
		wantPut(t, with(func(f *api.Fixup) { f.Target = n }), putModel(with(func(f *api.Fixup) { f.Target = min(nearest, 2) })))
		wantPut(t, with(func(f *api.Fixup) { f.Frame, f.FrameN = n, 3 }), putModel(with(func(f *api.Fixup) { f.Frame, f.FrameN = min(nearest, 5), 3 })))
	}
	for _, n := range append(far, 0, -1, -2, 32768, 65535) {
		wantPut(t, with(func(f *api.Fixup) { f.N = n }), []byte{0xc4, 0, 0x54, 0})
		wantPut(t, with(func(f *api.Fixup) { f.Frame, f.FrameN = api.BySeg, n }), []byte{0xc4, 0, 4, 0, 1})
		wantPut(t, with(func(f *api.Fixup) { f.FrameN = n }), []byte{0xc4, 0, 0x54, 1})
	}
	for loc := range 5 {
		f := with(func(f *api.Fixup) { f.Loc, f.Self = loc, true })
		wantPut(t, f, putModel(f))
	}
	wantPut(t, with(func(f *api.Fixup) { f.Loc = 5 }), []byte{0xd0, 0, 0x54, 1})
	wantPut(t, with(func(f *api.Fixup) { f.Frame = 6 }), []byte{0xc4, 0, 0x54, 1})
	wantPut(t, with(func(f *api.Fixup) { f.Target = 3 }), []byte{0xc4, 0, 0x56, 1})
	// Nothing is told so, and it has no index.
	wantPut(t, with(func(f *api.Fixup) { f.Frame, f.FrameN = 3, 7 }), []byte{0xc4, 0, 0x34, 1})
	wantPut(t, api.Fixup{}, []byte{0xc0, 0, 4, 0, 0})
}

func TestRecord(t *testing.T) {
	wantRecord(t, nil, nil)
	wantRecord(t, []api.Fixup{}, nil)
	var l []api.Fixup
	var b []byte
	for _, c := range byHand {
		wantRecord(t, []api.Fixup{c.f}, told(t, c.text))
		l = append(l, c.f)
		b = append(b, told(t, c.text)...)
		wantRecord(t, l, b)
	}
	wantRecord(t, []api.Fixup{{}, plain, {At: -1, N: -1}}, told(t, "c000 04 00 00 c400 54 01 c000 04 00 00"))
	if r := Record([]api.Fixup{plain}); r.Kind != api.RecFixupp {
		t.Errorf("its kind is %x", r.Kind)
	}
}

// TestRecordOfMany has fixups in the order in which they stand, more than there is room for, too.
func TestRecordOfMany(t *testing.T) {
	d := drawer(79)
	for _, many := range []int{2, 3, 100, 1000, 5000} {
		l := make([]api.Fixup, many)
		for i := range l {
			l[i] = d.good()
		}
		wantRecord(t, l, body(l...))
		var one []byte
		for _, f := range l {
			one = append(one, Put(f)...)
		}
		if !bytes.Equal(one, Record(l).Body) {
			t.Error("a record has other bytes than its fixups")
		}
	}
}
