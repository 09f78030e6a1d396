package omf

import (
	"bytes"
	"encoding/hex"
	"math"
	"reflect"
	"slices"
	"strings"
	"testing"

	"hansom/api"
)

// drawer draws by a rule.
type drawer uint32

func (d *drawer) byte() byte {
	*d = *d*1664525 + 1013904223
	return byte(*d >> 24)
}

// below is a number from 0 on, below most.
func (d *drawer) below(most int) int {
	return (int(d.byte())*65536 + int(d.byte())*256 + int(d.byte())) % most
}

// in is an index of one of so many.
func (d *drawer) in(many int) int { return 1 + d.below(many) }

// name is a short name, or none.
func (d *drawer) name() string { return "ABCDEFGH"[:d.below(9)] }

func (d *drawer) bytes(many int) []byte {
	b := make([]byte, many)
	for i := range b {
		b[i] = d.byte()
	}
	return b
}

// fixup is one that may be, of a module and of so many bytes (4 and more).
func (d *drawer) fixup(m api.Module, many int) api.Fixup {
	f := api.Fixup{At: d.below(min(many, 1024) - 3), Loc: d.below(5)}
	f.Self = f.Loc < 2 && d.below(2) == 0
	f.Target, f.N = d.by(m)
	f.Frame, f.FrameN = api.ByHere+d.below(2), 0
	if d.below(2) == 0 {
		f.Frame, f.FrameN = d.by(m)
	}
	if d.below(2) == 0 {
		f.Disp = uint16(d.below(65536))
	}
	return f
}

// by is something of a module that is told by an index. (It has a segment.)
func (d *drawer) by(m api.Module) (int, int) {
	by := d.below(3)
	many := []int{len(m.Segs), len(m.Groups), len(m.Exts)}[by]
	if many == 0 {
		return api.BySeg, d.in(len(m.Segs))
	}
	return by, d.in(many)
}

// module is one that may be, with little of all.
func (d *drawer) module() api.Module {
	m := api.Module{Name: d.name(), Main: d.below(2) == 0}
	for range d.below(3) {
		m.Notes = append(m.Notes, api.Comment{Flags: d.byte(), Class: d.byte(), Text: d.name()})
	}
	for range 1 + d.below(4) {
		m.Names = append(m.Names, d.name())
	}
	for range 1 + d.below(3) {
		m.Segs = append(m.Segs, d.segment(len(m.Names)))
	}
	for range d.below(3) {
		g := api.GrpDef{Name: d.in(len(m.Names))}
		for range d.below(3) {
			g.Segs = append(g.Segs, d.in(len(m.Segs)))
		}
		m.Groups = append(m.Groups, g)
	}
	for range d.below(4) {
		x := api.Ext{Name: d.name(), Com: []int{0, api.ComNear, api.ComFar}[d.below(3)]}
		if x.Com != 0 {
			x.Len = uint32(d.below(1<<20 + 1))
		}
		m.Exts = append(m.Exts, x)
	}
	for range d.below(4) {
		p := api.Pub{Group: d.below(len(m.Groups) + 1), Seg: d.below(len(m.Segs) + 1), Name: d.name(), Off: uint16(d.below(65536))}
		if p.Seg == 0 {
			p.Frame = uint16(d.below(65536))
		}
		m.Pubs = append(m.Pubs, p)
	}
	for range d.below(4) {
		m.Datas = append(m.Datas, d.data(m))
	}
	if d.below(2) == 0 {
		m.Is = true
		m.Start = d.fixup(m, 4)
		m.Start.At, m.Start.Loc, m.Start.Self = 0, 0, false
		if m.Start.Frame == api.ByHere {
			m.Start.Frame = api.ByTarget
		}
	}
	return m
}

// segment is one of 64 bytes and more.
func (d *drawer) segment(names int) api.SegDef {
	s := api.SegDef{Align: d.below(5), Combine: []int{0, 2, 5, 6}[d.below(4)], Len: []int{64, 100, 65535, 65536}[d.below(4)]}
	if s.Align == api.AlignAt {
		s.Frame, s.Offset = uint16(d.below(65536)), d.byte()
	}
	s.Name, s.Class, s.Overlay = d.below(names+1), d.below(names+1), d.below(names+1)
	return s
}

func (d *drawer) data(m api.Module) api.Data {
	x := api.Data{Seg: d.in(len(m.Segs)), Bytes: d.bytes(4 + d.below(16))}
	x.Off = uint16(d.below(m.Segs[x.Seg-1].Len - len(x.Bytes) + 1))
	for range d.below(4) {
		x.Fixups = append(x.Fixups, d.fixup(m, len(x.Bytes)))
	}
	return x
}

// told is bytes as they are told by hand, in hexadecimal.
func told(text string) []byte {
	b, err := hex.DecodeString(strings.ReplaceAll(text, " ", ""))
	if err != nil {
		panic(err)
	}
	return b
}

// row is a record: its kind, and its bytes as they are told by hand.
type row struct {
	kind byte
	text string
}

// framed is a record's bytes, reckoned here.
func framed(kind byte, body []byte) []byte {
	many := len(body) + 1
	b := append([]byte{kind, byte(many % 256), byte(many / 256)}, body...)
	sum := 0
	for _, one := range b {
		sum += int(one)
	}
	return append(b, byte((256-sum%256)%256))
}

// written is the bytes of records, one behind the other.
func written(rows ...row) []byte {
	var b []byte
	for _, r := range rows {
		b = append(b, framed(r.kind, told(r.text))...)
	}
	return b
}

// wrapped is the bytes of a module that has such records between its name and its end.
func wrapped(rows ...row) []byte {
	return slices.Concat(written(row{0x80, "00"}), written(rows...), written(row{0x8a, "00"}))
}

// sample is a module that has something of all.
func sample() api.Module {
	return api.Module{
		Name:  "A.ASM",
		Notes: []api.Comment{{Flags: 0x80, Class: 0x41, Text: "hi"}, {}},
		Names: []string{"", "CODE", "DATA", "DGROUP"},
		Segs: []api.SegDef{
			{Align: api.AlignPara, Combine: api.Public, Len: 12, Name: 2, Class: 2, Overlay: 1},
			{Align: api.AlignWord, Combine: api.Stack, Len: 1 << 16, Name: 3},
			{Align: api.AlignAt, Frame: 0xb800, Offset: 9, Len: 0x0fa0, Name: 4, Overlay: 1},
		},
		Groups: []api.GrpDef{{Name: 4, Segs: []int{2, 1}}, {Name: 1}},
		Exts:   []api.Ext{{Name: "PUTS"}, {Name: "BUF", Com: api.ComNear, Len: 300}, {Name: "FAR", Com: api.ComFar, Len: 6}},
		Pubs:   []api.Pub{{Group: 1, Seg: 2, Name: "V", Off: 4}, {Frame: 0x40, Name: "CLK", Off: 0x6c}},
		Datas: []api.Data{
			{Seg: 1, Off: 0, Bytes: told("b800009a00000000"), Fixups: []api.Fixup{
				{At: 1, Loc: api.LocBase, Frame: api.ByGroup, FrameN: 1, Target: api.ByGroup, N: 1},
				{At: 4, Loc: api.LocPointer, Frame: api.ByTarget, Target: api.ByExt, N: 1, Disp: 5},
			}},
			{Seg: 2, Off: 0xfffe, Bytes: told("0102")},
			{Seg: 1, Off: 8, Bytes: told("e80000f4"), Fixups: []api.Fixup{
				{At: 1, Loc: api.LocOffset, Self: true, Frame: api.ByHere, Target: api.BySeg, N: 3, Disp: 0xffff},
			}},
		},
		Main:  true,
		Is:    true,
		Start: api.Fixup{Frame: api.BySeg, FrameN: 1, Target: api.BySeg, N: 1, Disp: 8},
	}
}

// sampleRows is the sample's records, told by hand.
var sampleRows = []row{
	{0x80, "05 412e41534d"},
	{0x88, "80 41 6869"},
	{0x88, "00 00"},
	{0x96, "00 04434f4445 0444415441 064447524f5550"},
	{0x98, "68 0c00 02 02 01"},
	{0x98, "56 0000 03 00 00"},
	{0x98, "00 00b8 09 a00f 04 00 01"},
	{0x9a, "04 ff02 ff01"},
	{0x9a, "01"},
	{0x8c, "0450555453 00"},
	{0xb0, "03425546 00 62 812c01"},
	{0xb0, "03464152 00 61 06 01"},
	{0x90, "01 02 0156 0400 00"},
	{0x90, "00 00 4000 03434c4b 6c00 00"},
	{0xa0, "01 0000 b800009a00000000"},
	{0x9c, "c801 15 01 01 cc04 52 01 0500"},
	{0xa0, "02 feff 0102"},
	{0xa0, "01 0800 e80000f4"},
	{0x9c, "8401 40 03 ffff"},
	{0x8a, "c1 00 01 01 0800"},
}

// with is the sample, changed.
func with(change func(*api.Module)) api.Module {
	m := sample()
	change(&m)
	return m
}

// far is numbers beyond all that is asked for.
var far = []int{math.MinInt, -1 << 32, math.MinInt32, -65536, -32768, -256, -1, 32768, 65535, 65536, 65537, math.MaxInt32, 1 << 32, 1<<32 + 1, math.MaxInt}

// none is nil in place of a list that is empty, since these are the same.
func none[T any](l []T) []T {
	if len(l) == 0 {
		return nil
	}
	return slices.Clone(l)
}

// plain is a module that shares nothing with m, and is alike if what it has is.
func plain(m api.Module) api.Module {
	m.Notes, m.Names, m.Segs, m.Exts, m.Pubs = none(m.Notes), none(m.Names), none(m.Segs), none(m.Exts), none(m.Pubs)
	m.Groups, m.Datas = none(m.Groups), none(m.Datas)
	for i := range m.Groups {
		m.Groups[i].Segs = none(m.Groups[i].Segs)
	}
	for i := range m.Datas {
		m.Datas[i].Bytes, m.Datas[i].Fixups = none(m.Datas[i].Bytes), none(m.Datas[i].Fixups)
	}
	return m
}

func same(a, b api.Module) bool { return reflect.DeepEqual(plain(a), plain(b)) }

// begin is what to show of bytes.
func begin(b []byte) []byte { return b[:min(len(b), 60)] }

func wantCheck(t *testing.T, what string, m api.Module, want api.Errno) {
	t.Helper()
	if e := Check(m); e != want {
		t.Fatalf("%s: Check is %d; want %d", what, e, want)
	}
}

// wantRows has a module's records, and its bytes.
func wantRows(t *testing.T, what string, m api.Module, rows []row) {
	t.Helper()
	l, e := Records(m)
	if e != api.OK || len(l) != len(rows) {
		t.Fatalf("%s: Records are %d, %d; want %d", what, len(l), e, len(rows))
	}
	for i, r := range l {
		if r.Kind != rows[i].kind || !bytes.Equal(r.Body, told(rows[i].text)) {
			t.Fatalf("%s: record %d is %x, % x; want %x, %s", what, i, r.Kind, begin(r.Body), rows[i].kind, rows[i].text[:min(len(rows[i].text), 120)])
		}
	}
	b, e := Write(m)
	if want := written(rows...); e != api.OK || !bytes.Equal(b, want) {
		t.Fatalf("%s: Write is % x, of %d, %d; want % x, of %d", what, begin(b), len(b), e, begin(want), len(want))
	}
}

// wantUnwritten has an error of a module that can't be written, and nothing beside it.
func wantUnwritten(t *testing.T, what string, m api.Module, want api.Errno) {
	t.Helper()
	l, e := Records(m)
	if l != nil || e != want {
		t.Fatalf("%s: Records are %d, %d; want none, %d", what, len(l), e, want)
	}
	b, e := Write(m)
	if b != nil || e != want {
		t.Fatalf("%s: Write is %d bytes, %d; want none, %d", what, len(b), e, want)
	}
}

// wantRead has the module that b begins with, and how many of its bytes it has.
func wantRead(t *testing.T, what string, b []byte, want api.Module, many int) {
	t.Helper()
	m, n, e := Read(b)
	if e != api.OK || n != many || !same(m, want) {
		t.Fatalf("%s: Read(% x, of %d) is %+v, %d, %d; want %+v, %d", what, begin(b), len(b), m, n, e, want, many)
	}
}

// wantWrong has an error that b tells, and nothing beside it.
func wantWrong(t *testing.T, what string, b []byte, want api.Errno) {
	t.Helper()
	m, n, e := Read(b)
	if e != want || n != 0 || !reflect.DeepEqual(m, api.Module{}) {
		t.Fatalf("%s: Read(% x, of %d) is %+v, %d, %d; want nothing, %d", what, begin(b), len(b), m, n, e, want)
	}
}

func wantName(t *testing.T, m api.Module, n int, want string) {
	t.Helper()
	if s := Name(m, n); s != want {
		t.Fatalf("Name(%q, %d) is %q; want %q", m.Names, n, s, want)
	}
}

func TestNameByHand(t *testing.T) {
	m := sample()
	for i, want := range []string{"", "", "CODE", "DATA", "DGROUP", "", ""} {
		wantName(t, m, i, want)
	}
	for _, n := range append([]int{-1, -4, 256}, far...) {
		wantName(t, m, n, "")
		wantName(t, api.Module{}, n, "")
	}
	wantName(t, api.Module{}, 0, "")
	wantName(t, api.Module{}, 1, "")
	wantName(t, api.Module{Names: []string{"A"}}, 0, "")
	wantName(t, api.Module{Names: []string{"A"}}, 1, "A")
	wantName(t, api.Module{Names: []string{"A"}}, 2, "")
	// Names behind the end are none of the module's.
	room := []string{"A", "B", "C"}
	wantName(t, api.Module{Names: room[:1]}, 2, "")
	wantName(t, api.Module{Names: room[1:2]}, 1, "B")
	wantName(t, api.Module{Names: room[1:2]}, 0, "")
}

// TestNameOfManyNames asks no limit: also names that no record has room for are names.
func TestNameOfManyNames(t *testing.T) {
	var m api.Module
	for i := range 1000 {
		m.Names = append(m.Names, strings.Repeat("x", i))
	}
	for n := 1; n <= 1000; n++ {
		wantName(t, m, n, m.Names[n-1])
	}
	wantName(t, m, 1001, "")
}
