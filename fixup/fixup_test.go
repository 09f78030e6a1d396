package fixup

import (
	"bytes"
	"encoding/hex"
	"math"
	"slices"
	"strings"
	"testing"

	"hansom/api"
)

// drawer draws bytes by a rule.
type drawer uint32

func (d *drawer) byte() byte {
	*d = *d*1664525 + 1013904223
	return byte(*d >> 24)
}

func (d *drawer) bytes(many int) []byte {
	b := make([]byte, many)
	for i := range b {
		b[i] = d.byte()
	}
	return b
}

// below is a number from 0 on, below most.
func (d *drawer) below(most int) int {
	return (int(d.byte())*65536 + int(d.byte())*256 + int(d.byte())) % most
}

// index is one of those that may be, with the edges more often than chance has them.
func (d *drawer) index() int {
	return []int{1, 127, 128, 32767, 1 + d.below(127), 1 + d.below(32767)}[d.below(6)]
}

// good is a fixup that may be, of data of 1027 bytes and more.
func (d *drawer) good() api.Fixup {
	f := api.Fixup{At: d.below(1024), Loc: d.below(5), Target: d.below(3), N: d.index()}
	f.Self = f.Loc < 2 && d.below(2) == 0
	f.Frame = []int{0, 1, 2, 4, 5}[d.below(5)]
	if f.Frame < 3 {
		f.FrameN = d.index()
	}
	if d.below(2) == 0 {
		f.Disp = uint16(d.below(65536))
	}
	return f
}

// any is a fixup that may be, or may not, in about one number.
func (d *drawer) any() api.Fixup {
	f := d.good()
	switch d.below(9) {
	case 0:
		f.At = []int{-1, 1024, 1025, 65535, -1024}[d.below(5)]
	case 1:
		f.Loc = d.below(9) - 2
	case 2:
		f.Self = true
	case 3:
		f.Frame = d.below(10) - 2
	case 4:
		f.FrameN = []int{0, 1, 2, 32768, -1, 65537}[d.below(6)]
	case 5:
		f.Target = d.below(9) - 2
	case 6:
		f.N = []int{0, 32768, -1, 65537}[d.below(4)]
	}
	return f
}

// told is bytes as they are told by hand, in hexadecimal.
func told(t *testing.T, text string) []byte {
	t.Helper()
	b, err := hex.DecodeString(strings.ReplaceAll(text, " ", ""))
	if err != nil {
		t.Fatal(err)
	}
	return b
}

// begin is what to show of bytes.
func begin(b []byte) []byte { return b[:min(len(b), 40)] }

// plain is a fixup that may be, at the beginning.
var plain = api.Fixup{Loc: api.LocOffset, Frame: api.ByTarget, Target: api.BySeg, N: 1}

// with is the plain one, changed.
func with(change func(*api.Fixup)) api.Fixup {
	f := plain
	change(&f)
	return f
}

// no is without any thread.
var no api.Threads

// all is threads of which each is told, another way each.
var all = api.Threads{
	Frame:  [4]api.Thread{{Is: true, By: 5}, {Is: true, By: 0, N: 300}, {Is: true, By: 1, N: 5}, {Is: true, By: 2, N: 32767}},
	Target: [4]api.Thread{{Is: true, By: 2, N: 128}, {Is: true, By: 1, N: 127}, {Is: true, By: 0, N: 1}, {Is: true, By: 0, N: 4660}},
}

// sizes is how many bytes of the data each kind has.
var sizes = map[int]int{0: 1, 1: 2, 2: 2, 3: 4, 4: 1}

// far is numbers beyond all that is asked for.
var far = []int{math.MinInt, math.MinInt + 1, -1 << 32, math.MinInt32, -65536, -32768, -1024, 65536, 65537, 1 << 20, math.MaxInt32, 1 << 32, 1<<32 + 1, math.MaxInt - 4, math.MaxInt - 1, math.MaxInt}

// inds are indices at their edges, and their bytes.
var inds = []struct {
	n    int
	text string
}{
	{1, "01"}, {2, "02"}, {126, "7e"}, {127, "7f"}, {128, "8080"}, {129, "8081"}, {255, "80ff"}, {256, "8100"}, {300, "812c"}, {0x1234, "9234"}, {0x7ffe, "fffe"}, {0x7fff, "ffff"},
}

// mayModel asks each thing of a fixup apart.
func mayModel(f api.Fixup, n int) bool {
	size, kind := sizes[f.Loc]
	indexed := map[int]bool{0: true, 1: true, 2: true}
	frameN := 0 < f.FrameN && f.FrameN < 32768
	if f.Frame == 4 || f.Frame == 5 {
		indexed[f.Frame] = true
		frameN = f.FrameN == 0
	}
	targetN := 0 < f.N && f.N < 32768
	self := !f.Self || f.Loc == 0 || f.Loc == 1
	at := 0 <= f.At && f.At <= 1023 && n-size >= f.At
	return kind && self && at && indexed[f.Frame] && frameN && f.Target <= 2 && indexed[f.Target] && targetN
}

// indexed is an index' bytes, reckoned here.
func indexed(n int) []byte {
	if n < 128 {
		return []byte{byte(n)}
	}
	return []byte{byte(n/256 + 128), byte(n % 256)}
}

// putModel is the bytes of a fixup that may be.
func putModel(f api.Fixup) []byte {
	b := []byte{byte(128 + 64 + 4*f.Loc + f.At/256), byte(f.At % 256), byte(16*f.Frame + f.Target + 4)}
	if f.Self {
		b[0] -= 64
	}
	if f.Frame != 4 && f.Frame != 5 {
		b = append(b, indexed(f.FrameN)...)
	}
	b = append(b, indexed(f.N)...)
	if f.Disp != 0 {
		b[2] -= 4
		b = append(b, byte(f.Disp%256), byte(f.Disp/256))
	}
	return b
}

// body is the bytes of a record of fixups that may be.
func body(l ...api.Fixup) []byte {
	var b []byte
	for _, f := range l {
		b = append(b, putModel(f)...)
	}
	return b
}

func wantSize(t *testing.T, loc, want int) {
	t.Helper()
	if n := Size(loc); n != want {
		t.Fatalf("Size(%d) is %d; want %d", loc, n, want)
	}
}

func wantMay(t *testing.T, f api.Fixup, n int, want bool) {
	t.Helper()
	if May(f, n) != want {
		t.Fatalf("May(%+v, %d) is %v", f, n, !want)
	}
}

func wantPut(t *testing.T, f api.Fixup, want []byte) {
	t.Helper()
	if b := Put(f); !bytes.Equal(b, want) {
		t.Fatalf("Put(%+v) is % x; want % x", f, b, want)
	}
}

func wantRecord(t *testing.T, l []api.Fixup, want []byte) {
	t.Helper()
	if r := Record(l); r.Kind != 0x9c || !bytes.Equal(r.Body, want) {
		t.Fatalf("Record(%d fixups) is %x, % x, of %d; want 9c, % x, of %d", len(l), r.Kind, begin(r.Body), len(r.Body), begin(want), len(want))
	}
}

// wantGot has the fixups and the threads behind them that b tells.
func wantGot(t *testing.T, b []byte, n int, with api.Threads, want []api.Fixup, behind api.Threads) {
	t.Helper()
	l, threads, e := Get(b, n, with)
	if e != api.OK || !slices.Equal(l, want) || threads != behind {
		t.Fatalf("Get(% x, of %d, %d, %v) is %+v, %v, %d; want %+v, %v", begin(b), len(b), n, with, l[:min(len(l), 9)], threads, e, want[:min(len(want), 9)], behind)
	}
}

// wantWrong has an error that b tells, and nothing beside it.
func wantWrong(t *testing.T, b []byte, n int, with api.Threads, want api.Errno) {
	t.Helper()
	l, threads, e := Get(b, n, with)
	if e != want || l != nil || threads != no {
		t.Fatalf("Get(% x, of %d, %d, %v) is %+v, %v, %d; want nothing, %d", begin(b), len(b), n, with, l[:min(len(l), 9)], threads, e, want)
	}
}

func wantSorted(t *testing.T, l, want []api.Fixup) {
	t.Helper()
	if got := Sorted(l); !slices.Equal(got, want) {
		t.Fatalf("Sorted(%+v) is %+v; want %+v", l[:min(len(l), 9)], got[:min(len(got), 9)], want[:min(len(want), 9)])
	}
}
