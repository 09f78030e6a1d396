package data

import (
	"bytes"
	"encoding/hex"
	"math"
	"slices"
	"strings"
	"testing"

	"hansom/api"
)

// drawer draws bytes by a rule.
type drawer uint32

func (d *drawer) byte() byte {
	*d = *d*1664525 + 1013904223
	return byte(*d >> 24)
}

func (d *drawer) bytes(many int) []byte {
	b := make([]byte, many)
	for i := range b {
		b[i] = d.byte()
	}
	return b
}

// below is a number from 0 on, below most.
func (d *drawer) below(most int) int {
	return (int(d.byte())*65536 + int(d.byte())*256 + int(d.byte())) % most
}

// fixups are some that may be, and some that may not.
func (d *drawer) fixups() []api.Fixup {
	l := make([]api.Fixup, d.below(4))
	for i := range l {
		l[i] = api.Fixup{At: d.below(3000) - 1000, Loc: d.below(9) - 2, Self: d.below(2) == 0, Frame: d.below(9) - 2, FrameN: d.below(99), Target: d.below(9) - 2, N: d.below(40000) - 9, Disp: uint16(d.below(65536))}
	}
	return l
}

// data is some that may be, and some that may not, with the edges more often than chance has them.
func (d *drawer) data() api.Data {
	seg := []int{0, 1, 127, 128, 32767, 32768, -1, d.below(32768), d.below(300)}[d.below(9)]
	many := []int{0, 1, 1023, 1024, 1025, d.below(1100), d.below(9)}[d.below(7)]
	off := []int{0, 65535, 65536 - many, 65537 - many, 65535 - many, d.below(65536)}[d.below(6)]
	return api.Data{Seg: seg, Off: uint16(off), Bytes: d.bytes(many), Fixups: d.fixups()}
}

// told is bytes as they are told by hand, in hexadecimal.
func told(t *testing.T, text string) []byte {
	t.Helper()
	b, err := hex.DecodeString(strings.ReplaceAll(text, " ", ""))
	if err != nil {
		t.Fatal(err)
	}
	return b
}

// begin is what to show of bytes.
func begin(b []byte) []byte { return b[:min(len(b), 16)] }

// noSegments are numbers that are no segment's.
var noSegments = []int{0, -1, -2, -127, -128, -256, -32767, -32768, -65535, -65536, math.MinInt32, math.MinInt, 32768, 32769, 33000, 65535, 65536, 65537, 1 << 20, math.MaxInt32, 1 << 32, 1<<32 + 1, math.MaxInt}

// inds are indices of segments at their edges, and their bytes.
var inds = []struct {
	n    int
	text string
}{
	{1, "01"}, {2, "02"}, {0x41, "41"}, {126, "7e"}, {127, "7f"}, {128, "8080"}, {129, "8081"}, {255, "80ff"}, {256, "8100"}, {300, "812c"}, {0x1234, "9234"},
	{0x7f00, "ff00"}, {0x7ffe, "fffe"}, {0x7fff, "ffff"},
}

// indexed is an index' bytes, reckoned here.
func indexed(n int) []byte {
	if n < 128 {
		return []byte{byte(n)}
	}
	return []byte{byte(n/256 + 128), byte(n % 256)}
}

// body is the bytes of a record of data, reckoned here.
func body(seg, off int, b []byte) []byte {
	return append(append(indexed(seg), byte(off%256), byte(off/256)), b...)
}

// is tells whether data are of a segment, at an offset, these bytes, and without fixups.
func is(d api.Data, seg, off int, b []byte) bool {
	return d.Seg == seg && int(d.Off) == off && bytes.Equal(d.Bytes, b) && len(d.Fixups) == 0
}

// same tells whether data are alike, with their fixups.
func same(a, b api.Data) bool {
	return a.Seg == b.Seg && a.Off == b.Off && bytes.Equal(a.Bytes, b.Bytes) && slices.Equal(a.Fixups, b.Fixups)
}

func wantMay(t *testing.T, d api.Data, want bool) {
	t.Helper()
	if May(d) != want {
		t.Fatalf("May(%d, %d, % x, of %d) is %v", d.Seg, d.Off, begin(d.Bytes), len(d.Bytes), !want)
	}
}

func wantPut(t *testing.T, d api.Data, want []byte) {
	t.Helper()
	r, ok := Put(d)
	if !ok || r.Kind != 0xa0 || !bytes.Equal(r.Body, want) {
		t.Fatalf("Put(%d, %d, % x, of %d) is %x, % x, of %d, %v; want a0, % x, of %d", d.Seg, d.Off, begin(d.Bytes), len(d.Bytes), r.Kind, begin(r.Body), len(r.Body), ok, begin(want), len(want))
	}
}

func wantNoPut(t *testing.T, d api.Data) {
	t.Helper()
	if r, ok := Put(d); ok || r.Kind != 0 || r.Body != nil {
		t.Fatalf("Put(%d, %d, % x, of %d) is %x, % x, of %d, %v; want nothing", d.Seg, d.Off, begin(d.Bytes), len(d.Bytes), r.Kind, begin(r.Body), len(r.Body), ok)
	}
}

// wantGot has data that b tells.
func wantGot(t *testing.T, b []byte, seg, off int, want []byte) {
	t.Helper()
	if d, e := Get(b); e != api.OK || !is(d, seg, off, want) {
		t.Fatalf("Get(% x, of %d) is %d, %d, % x, of %d, %v, %d; want %d, %d, % x, of %d", begin(b), len(b), d.Seg, d.Off, begin(d.Bytes), len(d.Bytes), d.Fixups, e, seg, off, begin(want), len(want))
	}
}

// wantWrong has an error that b tells, and nothing beside it.
func wantWrong(t *testing.T, b []byte, want api.Errno) {
	t.Helper()
	if d, e := Get(b); e != want || d.Seg != 0 || d.Off != 0 || d.Bytes != nil || d.Fixups != nil {
		t.Fatalf("Get(% x, of %d) is %d, %d, % x, of %d, %v, %d; want nothing, %d", begin(b), len(b), d.Seg, d.Off, begin(d.Bytes), len(d.Bytes), d.Fixups, e, want)
	}
}

// wantCut has data of each of these offsets and bytes, in order.
func wantCut(t *testing.T, seg, off int, b []byte, offs []int, pieces [][]byte) {
	t.Helper()
	l := Cut(seg, uint16(off), b)
	if len(l) != len(pieces) {
		t.Fatalf("Cut(%d, %d, %d bytes) is %d data; want %d", seg, off, len(b), len(l), len(pieces))
	}
	for i, d := range l {
		if !is(d, seg, offs[i], pieces[i]) {
			t.Fatalf("Cut(%d, %d, %d bytes): data %d are %d, %d, % x, of %d, %v; want %d, % x, of %d", seg, off, len(b), i, d.Seg, d.Off, begin(d.Bytes), len(d.Bytes), d.Fixups, offs[i], begin(pieces[i]), len(pieces[i]))
		}
	}
}
