package iter

import (
	"bytes"
	"encoding/hex"
	"math"
	"math/big"
	"slices"
	"strings"
	"testing"

	"hansom/api"
)

// drawer draws bytes by a rule.
type drawer uint32

func (d *drawer) byte() byte {
	*d = *d*1664525 + 1013904223
	return byte(*d >> 24)
}

func (d *drawer) bytes(many int) []byte {
	b := make([]byte, many)
	for i := range b {
		b[i] = d.byte()
	}
	return b
}

// below is a number from 0 on, below most.
func (d *drawer) below(most int) int {
	return (int(d.byte())*65536 + int(d.byte())*256 + int(d.byte())) % most
}

// good is a block that may be, so deep at most.
func (d *drawer) good(deep int) api.Block {
	times := []int{1, 1, 1, 2, 3, 1 + d.below(5), 1 + d.below(65535)}[d.below(7)]
	if deep == 1 || d.below(3) == 0 {
		many := []int{1, 2, 1 + d.below(9), 255, 1 + d.below(255)}[d.below(5)]
		return api.Block{Times: times, Bytes: d.bytes(many)}
	}
	l := make([]api.Block, 1+d.below(4))
	for i := range l {
		l[i] = d.good(deep - 1)
	}
	return api.Block{Times: times, Blocks: l}
}

// small is a block that may be and spreads to few bytes.
func (d *drawer) small(deep int) api.Block {
	if deep == 1 || d.below(3) == 0 {
		return api.Block{Times: 1 + d.below(3), Bytes: d.bytes(1 + d.below(5))}
	}
	l := make([]api.Block, 1+d.below(3))
	for i := range l {
		l[i] = d.small(deep - 1)
	}
	return api.Block{Times: 1 + d.below(2), Blocks: l}
}

// any is a block that may be, or may not, with the edges more often than chance has them.
func (d *drawer) any(deep int) api.Block {
	times := []int{1, 2, 3, 65535, d.below(70000), 0, 65536, -1, d.below(9)}[min(d.below(14), 8)]
	b := api.Block{Times: times}
	switch d.below(9) {
	case 0:
		b.Bytes = d.bytes(255 + d.below(3))
	case 1:
		b.Bytes = []byte{}
	case 2, 3:
		b.Bytes = d.bytes(1 + d.below(20))
	}
	if deep > 1 && (b.Bytes == nil || d.below(20) == 0) {
		for range d.below(4) {
			b.Blocks = append(b.Blocks, d.any(deep-1))
		}
	}
	return b
}

// told is bytes as they are told by hand, in hexadecimal.
func told(t *testing.T, text string) []byte {
	t.Helper()
	b, err := hex.DecodeString(strings.ReplaceAll(text, " ", ""))
	if err != nil {
		t.Fatal(err)
	}
	return b
}

// begin is what to show of bytes.
func begin(b []byte) []byte { return b[:min(len(b), 24)] }

// leaf is a block of bytes.
func leaf(times int, s string) api.Block { return api.Block{Times: times, Bytes: []byte(s)} }

// of is a block of blocks.
func of(times int, l ...api.Block) api.Block { return api.Block{Times: times, Blocks: l} }

// chain is a block of a block of a block, and so on, so deep, each once but the innermost one.
func chain(deep int, inmost api.Block) api.Block {
	for range deep - 1 {
		inmost = of(1, inmost)
	}
	return inmost
}

// many is so many blocks of a byte.
func many(n int) []api.Block {
	l := make([]api.Block, n)
	for i := range l {
		l[i] = api.Block{Times: 1, Bytes: []byte{byte(i)}}
	}
	return l
}

// noTimes are numbers that are none of a block that may be.
var noTimes = []int{0, -1, -2, -255, -256, -65535, -65536, -65537, math.MinInt32, math.MinInt, math.MinInt + 1, 65536, 65537, 65538, 131071, 131073, 1 << 20, math.MaxInt32, 1 << 32, 1<<32 + 1, math.MaxInt}

// noSegments are numbers that are no segment's.
var noSegments = []int{0, -1, -2, -128, -32767, -32768, -65536, math.MinInt32, math.MinInt, 32768, 32769, 65535, 65536, 65537, math.MaxInt32, 1<<32 + 1, math.MaxInt}

// inds are indices of segments at their edges, and their bytes.
var inds = []struct {
	n    int
	text string
}{
	{1, "01"}, {2, "02"}, {126, "7e"}, {127, "7f"}, {128, "8080"}, {129, "8081"}, {255, "80ff"}, {256, "8100"}, {300, "812c"}, {0x1234, "9234"}, {0x7ffe, "fffe"}, {0x7fff, "ffff"},
}

// deepOf is how deep a block is.
func deepOf(b api.Block) int {
	most := 0
	for _, inner := range b.Blocks {
		most = max(most, deepOf(inner))
	}
	return most + 1
}

// mayModel asks of each block alone, and of their depth apart from that.
func mayModel(b api.Block) bool {
	if deepOf(b) > 8 {
		return false
	}
	queue := []api.Block{b}
	for i := 0; i < len(queue); i++ {
		one := queue[i]
		leafs := len(one.Bytes) != 0 && len(one.Bytes) < 256 && len(one.Blocks) == 0
		lists := len(one.Bytes) == 0 && len(one.Blocks) != 0 && len(one.Blocks) < 65536
		if leafs == lists || one.Times < 1 || one.Times >= 65536 {
			return false
		}
		queue = append(queue, one.Blocks...)
	}
	return true
}

// bigSize is how many bytes a block spreads to, in numbers of any size.
func bigSize(b api.Block) *big.Int {
	once := big.NewInt(int64(len(b.Bytes)))
	if len(b.Blocks) > 0 {
		once.SetInt64(0)
	}
	for _, inner := range b.Blocks {
		once.Add(once, bigSize(inner))
	}
	return once.Mul(once, big.NewInt(int64(max(b.Times, 0))))
}

// sizeModel is the same, 65537 at most.
func sizeModel(b api.Block) int {
	n := bigSize(b)
	if n.Cmp(big.NewInt(65537)) > 0 {
		return 65537
	}
	return int(n.Int64())
}

// spreadModel tells one byte behind the other.
func spreadModel(b api.Block) []byte {
	var all []byte
	for range b.Times {
		all = append(all, b.Bytes...)
		for _, inner := range b.Blocks {
			all = append(all, spreadModel(inner)...)
		}
	}
	return all
}

// putModel is the bytes of a block whose numbers each have room.
func putModel(b api.Block) []byte {
	all := []byte{byte(b.Times % 256), byte(b.Times / 256), byte(len(b.Blocks) % 256), byte(len(b.Blocks) / 256)}
	if len(b.Blocks) == 0 {
		all = append(all, byte(len(b.Bytes)))
		all = append(all, b.Bytes...)
	}
	for _, inner := range b.Blocks {
		all = append(all, putModel(inner)...)
	}
	return all
}

// indexed is an index' bytes, reckoned here.
func indexed(n int) []byte {
	if n < 128 {
		return []byte{byte(n)}
	}
	return []byte{byte(n/256 + 128), byte(n % 256)}
}

// body is the bytes of a record of blocks, reckoned here.
func body(seg, off int, l ...api.Block) []byte {
	b := append(indexed(seg), byte(off%256), byte(off/256))
	for _, one := range l {
		b = append(b, putModel(one)...)
	}
	return b
}

// copied is a block that shares nothing with one; same tells whether two are alike.
func copied(b api.Block) api.Block {
	c := api.Block{Times: b.Times, Bytes: slices.Clone(b.Bytes)}
	for _, inner := range b.Blocks {
		c.Blocks = append(c.Blocks, copied(inner))
	}
	return c
}

func same(a, b api.Block) bool {
	return a.Times == b.Times && bytes.Equal(a.Bytes, b.Bytes) && slices.EqualFunc(a.Blocks, b.Blocks, same)
}

// is tells whether data are of a segment, at an offset, these bytes, and without fixups.
func is(d api.Data, seg, off int, b []byte) bool {
	return d.Seg == seg && int(d.Off) == off && bytes.Equal(d.Bytes, b) && len(d.Fixups) == 0
}

// shown is what to show of a block.
func shown(b api.Block) []any {
	return []any{b.Times, begin(b.Bytes), len(b.Bytes), len(b.Blocks)}
}

func wantMay(t *testing.T, b api.Block, want bool) {
	t.Helper()
	if May(b) != want {
		t.Fatalf("May(%v) is %v", shown(b), !want)
	}
}

func wantSize(t *testing.T, b api.Block, want int) {
	t.Helper()
	if n := Size(b); n != want {
		t.Fatalf("Size(%v) is %d; want %d", shown(b), n, want)
	}
}

func wantSpread(t *testing.T, b api.Block, want []byte) {
	t.Helper()
	if l, ok := Spread(b); !ok || !bytes.Equal(l, want) {
		t.Fatalf("Spread(%v) is % x, of %d, %v; want % x, of %d", shown(b), begin(l), len(l), ok, begin(want), len(want))
	}
}

func wantNoSpread(t *testing.T, b api.Block) {
	t.Helper()
	if l, ok := Spread(b); ok || l != nil {
		t.Fatalf("Spread(%v) is % x, of %d, %v; want nothing", shown(b), begin(l), len(l), ok)
	}
}

func wantPut(t *testing.T, b api.Block, want []byte) {
	t.Helper()
	if l := Put(b); !bytes.Equal(l, want) {
		t.Fatalf("Put(%v) is % x, of %d; want % x, of %d", shown(b), begin(l), len(l), begin(want), len(want))
	}
}

func wantRecord(t *testing.T, seg, off int, l []api.Block, want []byte) {
	t.Helper()
	if r := Record(seg, uint16(off), l); r.Kind != 0xa2 || !bytes.Equal(r.Body, want) {
		t.Fatalf("Record(%d, %d, %d blocks) is %x, % x, of %d; want a2, % x, of %d", seg, off, len(l), r.Kind, begin(r.Body), len(r.Body), begin(want), len(want))
	}
}

// wantGot has data that b tells.
func wantGot(t *testing.T, b []byte, seg, off int, want []byte) {
	t.Helper()
	if d, e := Get(b); e != api.OK || !is(d, seg, off, want) {
		t.Fatalf("Get(% x, of %d) is %d, %d, % x, of %d, %v, %d; want %d, %d, % x, of %d", begin(b), len(b), d.Seg, d.Off, begin(d.Bytes), len(d.Bytes), d.Fixups, e, seg, off, begin(want), len(want))
	}
}

// wantWrong has an error that b tells, and nothing beside it.
func wantWrong(t *testing.T, b []byte, want api.Errno) {
	t.Helper()
	if d, e := Get(b); e != want || d.Seg != 0 || d.Off != 0 || d.Bytes != nil || d.Fixups != nil {
		t.Fatalf("Get(% x, of %d) is %d, %d, % x, of %d, %v, %d; want nothing, %d", begin(b), len(b), d.Seg, d.Off, begin(d.Bytes), len(d.Bytes), d.Fixups, e, want)
	}
}
