package iter

import (
	"bytes"
	"math"
	"testing"

	"hansom/api"
)

func TestPutByHand(t *testing.T) {
	for _, c := range []struct {
		b    api.Block
		text string
	}{
		{leaf(1, "x"), "0100 0000 01 78"},
		{leaf(3, "x"), "0300 0000 01 78"},
		{leaf(0x1234, "AB"), "3412 0000 02 4142"},
		{leaf(65535, "\x00\x80\xff"), "ffff 0000 03 0080ff"},
		{leaf(256, "A"), "0001 0000 01 41"},
		{of(2, leaf(3, "x")), "0200 0100 0300 0000 01 78"},
		{of(5, leaf(1, "a"), leaf(2, "bc")), "0500 0200 0100 0000 01 61 0200 0000 02 6263"},
		{of(1, of(2, of(3, leaf(4, "d")))), "0100 0100 0200 0100 0300 0100 0400 0000 01 64"},
		{of(2, of(3, leaf(5, "a"), leaf(1, "c")), leaf(4, "d")), "0200 0200 0300 0200 0500 0000 01 61 0100 0000 01 63 0400 0000 01 64"},
		{of(2, leaf(4, "d"), of(3, leaf(5, "a"))), "0200 0200 0400 0000 01 64 0300 0100 0500 0000 01 61"},
		{chain(8, leaf(7, "z")), "0100 0100 0100 0100 0100 0100 0100 0100 0100 0100 0100 0100 0100 0100 0700 0000 01 7a"},
	} {
		wantPut(t, c.b, told(t, c.text))
	}
}

func TestPutOfTimes(t *testing.T) {
	for n := range 65536 {
		wantPut(t, leaf(n, "x"), []byte{byte(n % 256), byte(n / 256), 0, 0, 1, 'x'})
		wantPut(t, of(n, leaf(1, "x")), []byte{byte(n % 256), byte(n / 256), 1, 0, 1, 0, 0, 0, 1, 'x'})
	}
}

func TestPutOfBytes(t *testing.T) {
	d := drawer(23)
	b := d.bytes(255)
	for n := range 256 {
		wantPut(t, api.Block{Times: 9, Bytes: b[:n]}, append([]byte{9, 0, 0, 0, byte(n)}, b[:n]...))
	}
}

func TestPutOfCountsOfBlocks(t *testing.T) {
	for _, n := range []int{1, 2, 255, 256, 257, 0x1234, 65534, 65535} {
		want := []byte{7, 0, byte(n % 256), byte(n / 256)}
		for i := range n {
			want = append(want, 1, 0, 0, 0, 1, byte(i))
		}
		wantPut(t, of(7, many(n)...), want)
	}
}

// TestPutOfWhatIsBeyond has numbers that count as the nearest that has room, and as many bytes or blocks behind them.
func TestPutOfWhatIsBeyond(t *testing.T) {
	for _, n := range []int{-1, -2, -65535, -65536, math.MinInt32, math.MinInt} {
		wantPut(t, leaf(n, "x"), told(t, "0000 0000 01 78"))
		wantPut(t, of(n, leaf(n, "x")), told(t, "0000 0100 0000 0000 01 78"))
	}
	for _, n := range []int{65536, 65537, 1 << 20, math.MaxInt32, 1 << 32, math.MaxInt} {
		wantPut(t, leaf(n, "x"), told(t, "ffff 0000 01 78"))
		wantPut(t, of(n, leaf(n, "x")), told(t, "ffff 0100 ffff 0000 01 78"))
	}
	d := drawer(29)
	for _, n := range []int{256, 257, 512, 1000, 65536, 1 << 20} {
		b := d.bytes(n)
		wantPut(t, api.Block{Times: 1, Bytes: b}, append([]byte{1, 0, 0, 0, 255}, b[:255]...))
	}
	for _, n := range []int{65536, 65537, 131072} {
		wantPut(t, of(1, many(n)...), putModel(of(1, many(65535)...)))
	}
}

func TestPutOfWhatMayNotBe(t *testing.T) {
	wantPut(t, api.Block{}, told(t, "0000 0000 00"))
	wantPut(t, api.Block{Times: 5}, told(t, "0500 0000 00"))
	wantPut(t, api.Block{Times: 5, Bytes: []byte{}, Blocks: []api.Block{}}, told(t, "0500 0000 00"))
	wantPut(t, of(2, api.Block{}), told(t, "0200 0100 0000 0000 00"))
	wantPut(t, leaf(0, "ab"), told(t, "0000 0000 02 6162"))
	// Of a block that has blocks its bytes are not told.
	wantPut(t, api.Block{Times: 2, Bytes: []byte("abc"), Blocks: []api.Block{leaf(3, "x")}}, told(t, "0200 0100 0300 0000 01 78"))
	for _, deep := range []int{9, 10, 100, 65535, 65536} {
		want := append(bytes.Repeat([]byte{1, 0, 1, 0}, deep-1), 5, 0, 0, 0, 1, 'x')
		wantPut(t, chain(deep, leaf(5, "x")), want)
		wantRecord(t, 1, 0, []api.Block{chain(deep, leaf(5, "x"))}, append([]byte{1, 0, 0}, want...))
	}
}

// TestPutOfItself has lists that stand within themselves: whatever is told of them, it ends.
func TestPutOfItself(t *testing.T) {
	for at := range 3 {
		l := many(3)
		l[at].Blocks = l
		if b := Put(l[at]); !bytes.Equal(b[:4], []byte{1, 0, 3, 0}) {
			t.Errorf("it begins with % x", b[:4])
		}
		if r := Record(1, 0, l); r.Kind != 0xa2 {
			t.Errorf("it is %x", r.Kind)
		}
	}
}

func TestPutBesideTheModel(t *testing.T) {
	d := drawer(31)
	for range 15000 {
		for _, b := range []api.Block{d.good(1 + d.below(8)), d.small(1 + d.below(8))} {
			wantPut(t, b, putModel(b))
		}
	}
}

func TestRecordByHand(t *testing.T) {
	for _, c := range []struct {
		seg, off int
		l        []api.Block
		text     string
	}{
		{1, 0, nil, "01 0000"},
		{1, 0x1234, []api.Block{}, "01 3412"},
		{1, 5, []api.Block{leaf(3, "x")}, "01 0500 0300 0000 01 78"},
		{2, 0xff00, []api.Block{leaf(3, "x"), leaf(1, "ab")}, "02 00ff 0300 0000 01 78 0100 0000 02 6162"},
		{300, 0xffff, []api.Block{of(2, leaf(3, "x"))}, "812c ffff 0200 0100 0300 0000 01 78"},
		{127, 1, []api.Block{of(2, leaf(3, "x"), leaf(1, "y")), leaf(9, "z"), of(1, leaf(1, "w"))}, "7f 0100 0200 0200 0300 0000 01 78 0100 0000 01 79 0900 0000 01 7a 0100 0100 0100 0000 01 77"},
		{128, 0x80ff, []api.Block{{}}, "8080 ff80 0000 0000 00"},
	} {
		wantRecord(t, c.seg, c.off, c.l, told(t, c.text))
	}
	if api.RecLidata != 0xa2 {
		t.Errorf("a record of blocks is of the kind %x", api.RecLidata)
	}
}

func TestRecordOfSegments(t *testing.T) {
	l := []api.Block{leaf(2, "x")}
	for _, c := range inds {
		wantRecord(t, c.n, 0x0a0b, l, told(t, c.text+"0b0a 0200 0000 01 78"))
	}
	for n := 1; n <= 32767; n++ {
		wantRecord(t, n, 300, l, body(n, 300, l...))
	}
	for _, n := range noSegments {
		wantRecord(t, n, 300, l, told(t, "00 2c01 0200 0000 01 78"))
	}
}

func TestRecordOfOffsets(t *testing.T) {
	l := []api.Block{leaf(2, "x"), of(3, leaf(4, "y"))}
	for off := range 65536 {
		wantRecord(t, 200, off, l, body(200, off, l...))
	}
}

// TestRecordOfMany has each count of blocks, also of those that are more than a record has room for.
func TestRecordOfMany(t *testing.T) {
	for _, n := range []int{0, 1, 2, 3, 100, 666, 667, 700, 5000, 65535, 65536, 70000} {
		l := many(n)
		wantRecord(t, 1, 0, l, body(1, 0, l...))
	}
}

func TestRecordBesideTheModel(t *testing.T) {
	d := drawer(37)
	for range 5000 {
		var l []api.Block
		for range d.below(6) {
			l = append(l, d.small(1+d.below(8)))
		}
		seg, off := 1+d.below(32767), d.below(65536)
		wantRecord(t, seg, off, l, body(seg, off, l...))
	}
}
