package data

import (
	"bytes"
	"testing"

	"hansom/api"
)

// cutModel is where each piece is, and it, reckoned by the pieces' numbers.
func cutModel(off int, b []byte) ([]int, [][]byte) {
	var offs []int
	var pieces [][]byte
	for i := 0; i*1024 < len(b); i++ {
		offs = append(offs, (off+i*1024)%65536)
		pieces = append(pieces, b[i*1024:min(len(b), i*1024+1024)])
	}
	return offs, pieces
}

func TestCutOfNone(t *testing.T) {
	for _, off := range []uint16{0, 5, 65535} {
		for _, b := range [][]byte{nil, {}, make([]byte, 0, 9)} {
			if l := Cut(1, off, b); len(l) != 0 {
				t.Errorf("Cut of no bytes at %d is %v", off, l)
			}
		}
	}
}

func TestCutByHand(t *testing.T) {
	d := drawer(61)
	b := d.bytes(5000)
	for _, c := range []struct {
		off, many int
		offs      []int
		counts    []int
	}{
		{0, 1, []int{0}, []int{1}},
		{7, 2, []int{7}, []int{2}},
		{0, 1023, []int{0}, []int{1023}},
		{0, 1024, []int{0}, []int{1024}},
		{9, 1024, []int{9}, []int{1024}},
		{0, 1025, []int{0, 1024}, []int{1024, 1}},
		{100, 1025, []int{100, 1124}, []int{1024, 1}},
		{0, 2047, []int{0, 1024}, []int{1024, 1023}},
		{0, 2048, []int{0, 1024}, []int{1024, 1024}},
		{3, 2049, []int{3, 1027, 2051}, []int{1024, 1024, 1}},
		{0x1234, 4096, []int{0x1234, 0x1634, 0x1a34, 0x1e34}, []int{1024, 1024, 1024, 1024}},
		{0x1234, 4097, []int{0x1234, 0x1634, 0x1a34, 0x1e34, 0x2234}, []int{1024, 1024, 1024, 1024, 1}},
		{64512, 1024, []int{64512}, []int{1024}},
		{63488, 2048, []int{63488, 64512}, []int{1024, 1024}},
		{63489, 2047, []int{63489, 64513}, []int{1024, 1023}},
		{65535, 1, []int{65535}, []int{1}},
	} {
		var pieces [][]byte
		from := 0
		for _, many := range c.counts {
			pieces = append(pieces, b[from:from+many])
			from += many
		}
		wantCut(t, 300, c.off, b[:c.many], c.offs, pieces)
	}
}

func TestCutOfEachCount(t *testing.T) {
	d := drawer(67)
	b := d.bytes(5200)
	for many := range len(b) + 1 {
		offs, pieces := cutModel(77, b[:many])
		wantCut(t, 2, 77, b[:many], offs, pieces)
	}
}

func TestCutAtEachOffset(t *testing.T) {
	d := drawer(71)
	b := d.bytes(2050)
	for off := 0; off < 65536; off += 13 {
		offs, pieces := cutModel(off, b)
		wantCut(t, 1, off, b, offs, pieces)
	}
}

// TestCutOfAWholeSegment has all 2^16 bytes that a segment may have.
func TestCutOfAWholeSegment(t *testing.T) {
	d := drawer(73)
	b := d.bytes(65536)
	l := Cut(1, 0, b)
	if len(l) != 64 {
		t.Fatal(len(l), "data")
	}
	for i, one := range l {
		wantMay(t, one, true)
		if !is(one, 1, i*1024, b[i*1024:i*1024+1024]) {
			t.Fatal("data", i, "are others")
		}
	}
}

// TestCutMayBe has bytes that end within 2^16: each of their data may be, is put and read, and all together are what was handed in.
func TestCutMayBe(t *testing.T) {
	d := drawer(79)
	for range 600 {
		seg := 1 + d.below(32767)
		many := []int{d.below(10000), d.below(20) * 1024, d.below(20)*1024 + 1, d.below(3)}[d.below(4)]
		off := []int{0, 65535, d.below(65536), 65536 - many}[d.below(4)]
		off = max(0, min(off, 65536-many)) % 65536
		b := d.bytes(many)
		var all []byte
		next := off
		for _, one := range Cut(seg, uint16(off), b) {
			wantMay(t, one, true)
			if one.Seg != seg || int(one.Off) != next {
				t.Fatalf("data of %d at %d; want %d at %d", one.Seg, one.Off, seg, next)
			}
			r, _ := Put(one)
			wantGot(t, r.Body, seg, next, one.Bytes)
			next += len(one.Bytes)
			all = append(all, one.Bytes...)
		}
		if !bytes.Equal(all, b) {
			t.Fatalf("all together are % x, of %d; want % x, of %d", begin(all), len(all), begin(b), len(b))
		}
	}
}

// TestCutBehindTheEnd has bytes that end behind 2^16: offsets begin anew, and of the data just that may not be which goes over the end.
func TestCutBehindTheEnd(t *testing.T) {
	d := drawer(83)
	b := d.bytes(70000)
	for _, c := range [][2]int{{65535, 2}, {65535, 1025}, {65000, 3000}, {64512, 1025}, {64513, 1024}, {0, 65537}, {0, 70000}, {40000, 70000}} {
		offs, pieces := cutModel(c[0], b[:c[1]])
		wantCut(t, 4, c[0], b[:c[1]], offs, pieces)
		for i, one := range Cut(4, uint16(c[0]), b[:c[1]]) {
			wantMay(t, one, offs[i]+len(pieces[i]) <= 65536)
		}
	}
}

// TestCutOfAnySegment has any number as it is told: what may not be then is told by May.
func TestCutOfAnySegment(t *testing.T) {
	b := make([]byte, 1025)
	for _, n := range noSegments {
		wantCut(t, n, 8, b, []int{8, 1032}, [][]byte{b[:1024], b[1024:]})
		for _, one := range Cut(n, 8, b) {
			wantMay(t, one, false)
		}
	}
	for _, c := range inds {
		wantCut(t, c.n, 8, b, []int{8, 1032}, [][]byte{b[:1024], b[1024:]})
	}
}

func TestCutTellsNoFixups(t *testing.T) {
	for _, one := range Cut(1, 0, make([]byte, 3000)) {
		if one.Fixups != nil {
			t.Errorf("data at %d have fixups: %v", one.Off, one.Fixups)
		}
	}
}

func TestCutOfMuch(t *testing.T) {
	b := make([]byte, 1<<22+1)
	for i := range b {
		b[i] = byte(i>>10 ^ i)
	}
	l := Cut(1, 3, b)
	if len(l) != 4097 {
		t.Fatal(len(l), "data")
	}
	for i, one := range l {
		if !is(one, 1, (3+i*1024)%65536, b[i*1024:min(len(b), i*1024+1024)]) {
			t.Fatal("data", i, "are others")
		}
	}
	if last := l[4096]; len(last.Bytes) != 1 || last.Off != 3 {
		t.Errorf("the last data are %d bytes at %d", len(last.Bytes), last.Off)
	}
}

func TestCutBesideTheModel(t *testing.T) {
	d := drawer(89)
	for range 1500 {
		one := d.data()
		b := d.bytes(d.below(6000))
		offs, pieces := cutModel(int(one.Off), b)
		wantCut(t, one.Seg, int(one.Off), b, offs, pieces)
	}
	if api.MostData != 1024 {
		t.Error("data are", api.MostData, "bytes at most")
	}
}
