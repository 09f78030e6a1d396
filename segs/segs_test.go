package segs

import (
	"bytes"
	"encoding/hex"
	"math"
	"slices"
	"strings"
	"testing"

	"hansom/api"
)

// drawer draws bytes by a rule.
type drawer uint32

func (d *drawer) byte() byte {
	*d = *d*1664525 + 1013904223
	return byte(*d >> 24)
}

func (d *drawer) bytes(many int) []byte {
	b := make([]byte, many)
	for i := range b {
		b[i] = d.byte()
	}
	return b
}

// below is a number from 0 on, below most.
func (d *drawer) below(most int) int {
	return (int(d.byte())*65536 + int(d.byte())*256 + int(d.byte())) % most
}

// told is bytes as they are told by hand, in hexadecimal.
func told(t *testing.T, text string) []byte {
	t.Helper()
	b, err := hex.DecodeString(strings.ReplaceAll(text, " ", ""))
	if err != nil {
		t.Fatal(err)
	}
	return b
}

// begin is what to show of bytes.
func begin(b []byte) []byte { return b[:min(len(b), 16)] }

func wantMay(t *testing.T, s api.SegDef, want bool) {
	t.Helper()
	if May(s) != want {
		t.Fatalf("May(%+v) is %v", s, !want)
	}
}

func wantSegment(t *testing.T, s api.SegDef, body []byte) {
	t.Helper()
	r, ok := Segment(s)
	if !ok || r.Kind != 0x98 || !bytes.Equal(r.Body, body) {
		t.Fatalf("Segment(%+v) is %x, % x, %v; want 98, % x", s, r.Kind, r.Body, ok, body)
	}
}

func wantNoSegment(t *testing.T, s api.SegDef) {
	t.Helper()
	if r, ok := Segment(s); ok || r.Kind != 0 || r.Body != nil {
		t.Fatalf("Segment(%+v) is %x, % x, %v; want nothing", s, r.Kind, r.Body, ok)
	}
}

func wantDef(t *testing.T, b []byte, s api.SegDef, e api.Errno) {
	t.Helper()
	if got, err := Def(b); got != s || err != e {
		t.Fatalf("Def(% x, of %d) is %+v, %d; want %+v, %d", begin(b), len(b), got, err, s, e)
	}
}

func wantGroup(t *testing.T, g api.GrpDef, body []byte) {
	t.Helper()
	if r := Group(g); r.Kind != 0x9a || !bytes.Equal(r.Body, body) {
		t.Fatalf("Group(%d, %d segments) is %x, % x, of %d; want 9a, % x, of %d", g.Name, len(g.Segs), r.Kind, begin(r.Body), len(r.Body), begin(body), len(body))
	}
}

func wantGroups(t *testing.T, b []byte, g api.GrpDef, e api.Errno) {
	t.Helper()
	got, err := Groups(b)
	if got.Name != g.Name || !slices.Equal(got.Segs, g.Segs) || err != e {
		t.Fatalf("Groups(% x, of %d) is %d, %d segments, %d; want %d, %d segments, %d", begin(b), len(b), got.Name, len(got.Segs), err, g.Name, len(g.Segs), e)
	}
	if e != api.OK && got.Segs != nil {
		t.Fatalf("Groups(% x, of %d) is %d, and tells a list", begin(b), len(b), err)
	}
}

// Of what there is of each kind, by hand; the bytes of Align and of Combine are put together by adding.
var (
	alignBytes   = []struct{ align, in int }{{0, 0x00}, {1, 0x20}, {2, 0x40}, {3, 0x60}, {4, 0x80}}
	combineBytes = []struct{ combine, in int }{{0, 0x00}, {2, 0x08}, {5, 0x14}, {6, 0x18}}

	noAligns   = []int{-1, -2, -3, -4, -5, -8, -256, math.MinInt32, math.MinInt, 5, 6, 7, 8, 9, 10, 11, 12, 255, 256, 257, 259, 65536, 65539, 1 << 32, 1<<32 + 3, math.MaxInt}
	noCombines = []int{-1, -2, -3, -5, -6, -8, -256, math.MinInt32, math.MinInt, 1, 3, 4, 7, 8, 10, 13, 14, 16, 32, 255, 256, 258, 262, 65536, 65538, 1 << 32, 1<<32 + 2, math.MaxInt}
	noLens     = []int{-1, -2, -255, -256, -32768, -65535, -65536, -65537, math.MinInt32, math.MinInt, 65537, 65538, 131071, 131072, 131073, 1 << 20, math.MaxInt32, 1 << 32, 1<<32 + 5, math.MaxInt}
	noIndices  = []int{-1, -2, -127, -128, -256, -32767, -32768, -65536, math.MinInt32, math.MinInt, 32768, 32769, 33000, 65535, 65536, 65537, 1 << 20, math.MaxInt32, 1 << 32, 1<<32 + 1, math.MaxInt}
)

// lens are lengths at their edges, and what stands of them: a bit of the first byte, and the word.
var lens = []struct {
	n, bit int
	text   string
}{
	{0, 0, "0000"}, {1, 0, "0100"}, {2, 0, "0200"}, {5, 0, "0500"}, {127, 0, "7f00"}, {128, 0, "8000"}, {255, 0, "ff00"}, {256, 0, "0001"}, {257, 0, "0101"}, {0x1234, 0, "3412"},
	{0x7fff, 0, "ff7f"}, {0x8000, 0, "0080"}, {0xff00, 0, "00ff"}, {0xfffe, 0, "feff"}, {0xffff, 0, "ffff"}, {0x10000, 2, "0000"},
}

// inds are indices at their edges, and their bytes.
var inds = []struct {
	n    int
	text string
}{
	{0, "00"}, {1, "01"}, {2, "02"}, {0x41, "41"}, {126, "7e"}, {127, "7f"}, {128, "8080"}, {129, "8081"}, {255, "80ff"}, {256, "8100"}, {300, "812c"}, {0x1234, "9234"},
	{0x7f00, "ff00"}, {0x7ffe, "fffe"}, {0x7fff, "ffff"},
}

// puts puts a number into one of the three indices.
var puts = []func(s *api.SegDef, n int){
	func(s *api.SegDef, n int) { s.Name = n },
	func(s *api.SegDef, n int) { s.Class = n },
	func(s *api.SegDef, n int) { s.Overlay = n },
}

func TestMayOfNone(t *testing.T) {
	wantMay(t, api.SegDef{}, true)
}

func TestMayAlignAndCombine(t *testing.T) {
	for _, a := range alignBytes {
		for _, c := range combineBytes {
			s := api.SegDef{Align: a.align, Combine: c.combine, Len: 7, Name: 2, Class: 3, Overlay: 1}
			wantMay(t, s, true)
			for _, n := range noAligns {
				other := s
				other.Align = n
				wantMay(t, other, false)
			}
			for _, n := range noCombines {
				other := s
				other.Combine = n
				wantMay(t, other, false)
			}
		}
	}
	for n := -300; n <= 300; n++ {
		wantMay(t, api.SegDef{Align: n}, n >= 0 && n <= 4)
		wantMay(t, api.SegDef{Combine: n}, n == 0 || n == 2 || n == 5 || n == 6)
		wantMay(t, api.SegDef{Align: 3, Combine: n}, n == 0 || n == 2 || n == 5 || n == 6)
	}
}

func TestMayLen(t *testing.T) {
	for _, a := range alignBytes {
		for _, c := range combineBytes {
			for _, n := range lens {
				wantMay(t, api.SegDef{Align: a.align, Combine: c.combine, Len: n.n}, true)
			}
			for _, n := range noLens {
				wantMay(t, api.SegDef{Align: a.align, Combine: c.combine, Len: n}, false)
			}
		}
	}
	for n := -70000; n <= 140000; n++ {
		wantMay(t, api.SegDef{Align: 1, Len: n}, n >= 0 && n <= 65536)
	}
}

func TestMayFrameAndOffset(t *testing.T) {
	for _, frame := range []uint16{0, 1, 2, 0xff, 0x100, 0x7fff, 0x8000, 0xfffe, 0xffff} {
		for _, off := range []byte{0, 1, 2, 15, 16, 0x7f, 0x80, 0xfe, 0xff} {
			for _, a := range alignBytes {
				s := api.SegDef{Align: a.align, Combine: api.Public, Frame: frame, Offset: off, Len: 9}
				wantMay(t, s, a.align == 0 || frame == 0 && off == 0)
			}
			for _, n := range noAligns {
				wantMay(t, api.SegDef{Align: n, Frame: frame, Offset: off}, false)
			}
		}
	}
	for frame := range 1 << 16 {
		wantMay(t, api.SegDef{Frame: uint16(frame)}, true)
		wantMay(t, api.SegDef{Align: api.AlignPara, Frame: uint16(frame)}, frame == 0)
	}
	for off := range 1 << 8 {
		wantMay(t, api.SegDef{Offset: byte(off)}, true)
		wantMay(t, api.SegDef{Align: api.AlignByte, Offset: byte(off)}, off == 0)
	}
}

func TestMayIndices(t *testing.T) {
	for _, put := range puts {
		for _, a := range alignBytes {
			s := api.SegDef{Align: a.align, Combine: api.Public, Len: 9, Name: 4, Class: 5, Overlay: 6}
			for _, n := range inds {
				put(&s, n.n)
				wantMay(t, s, true)
			}
			for _, n := range noIndices {
				put(&s, n)
				wantMay(t, s, false)
			}
		}
		for n := -40000; n <= 70000; n++ {
			var s api.SegDef
			put(&s, n)
			wantMay(t, s, n >= 0 && n <= 32767)
		}
	}
}

func TestStep(t *testing.T) {
	for _, c := range []struct{ align, want int }{{0, 1}, {1, 1}, {2, 2}, {3, 16}, {4, 256}} {
		if n := Step(c.align); n != c.want {
			t.Errorf("Step(%d) is %d; want %d", c.align, n, c.want)
		}
	}
	for _, align := range noAligns {
		if n := Step(align); n != 1 {
			t.Errorf("Step(%d) is %d; want 1", align, n)
		}
	}
	for align := 5; align < 1<<17; align++ {
		if Step(align) != 1 || Step(-align) != 1 {
			t.Fatal("Step of", align, "is", Step(align), Step(-align))
		}
	}
}
