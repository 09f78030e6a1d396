package iter

import (
	"bytes"
	"slices"
	"strings"
	"testing"

	"hansom/api"
)

func TestGetByHand(t *testing.T) {
	for _, c := range []struct {
		text     string
		seg, off int
		want     string
	}{
		{"01 0500 0300 0000 01 78", 1, 5, "xxx"},
		{"01 0500 0200 0100 0300 0000 01 78", 1, 5, "xxxxxx"},
		{"02 3412 0100 0000 02 4142", 2, 0x1234, "AB"},
		{"02 3412 0100 0000 02 4142 0200 0000 01 43", 2, 0x1234, "ABCC"},
		{"7f 0000 0200 0200 0100 0000 01 61 0200 0000 01 62 0100 0000 01 63", 127, 0, "abbabbc"},
		{"8080 ff00 0100 0000 01 00", 128, 255, "\x00"},
		{"812c 0001 0100 0000 03 0080ff", 300, 256, "\x00\x80\xff"},
		{"ffff ffff 0100 0000 01 ff", 32767, 65535, "\xff"},
		{"01 feff 0200 0000 01 07", 1, 65534, "\x07\x07"},
		// Two bytes where one would do.
		{"8001 0500 0300 0000 01 78", 1, 5, "xxx"},
		// As deep as may be.
		{"01 0000 0100 0100 0100 0100 0100 0100 0100 0100 0100 0100 0100 0100 0200 0100 0300 0000 01 7a", 1, 0, "zzzzzz"},
	} {
		wantGot(t, told(t, c.text), c.seg, c.off, []byte(c.want))
	}
	for _, c := range inds {
		wantGot(t, told(t, c.text+"0b0a 0200 0000 02 0908"), c.n, 0x0a0b, []byte{9, 8, 9, 8})
	}
}

// TestGetOfRecord goes there and back.
func TestGetOfRecord(t *testing.T) {
	d := drawer(41)
	for range 15000 {
		var l []api.Block
		var want []byte
		for range 1 + d.below(5) {
			b := d.small(1 + d.below(8))
			l = append(l, b)
			want = append(want, spreadModel(b)...)
		}
		seg := 1 + d.below(32767)
		off := []int{0, 65535, d.below(65536), 65536 - len(want)}[d.below(4)]
		r := Record(seg, uint16(max(0, off)), l)
		if off < 0 || off+len(want) > 65536 {
			wantWrong(t, r.Body, api.ErrBig)
			continue
		}
		wantGot(t, r.Body, seg, off, want)
	}
}

func TestGetOfEachSegment(t *testing.T) {
	for n := range 32768 {
		b := append([]byte{byte(n/256 + 128), byte(n % 256)}, 3, 2, 2, 0, 0, 0, 1, 7)
		if n == 0 {
			wantWrong(t, b, api.ErrForm)
			wantWrong(t, body(0, 0x0203, leaf(2, "\x07")), api.ErrForm)
			continue
		}
		wantGot(t, b, n, 0x0203, []byte{7, 7})
		wantGot(t, body(n, 0x0203, leaf(2, "\x07")), n, 0x0203, []byte{7, 7})
	}
}

func TestGetOfEachOffset(t *testing.T) {
	for off := range 65536 {
		wantGot(t, body(5, off, leaf(1, "x")), 5, off, []byte("x"))
		if off > 65533 {
			wantWrong(t, body(5, off, leaf(3, "x")), api.ErrBig)
			wantWrong(t, body(5, off, leaf(1, "x"), leaf(2, "y")), api.ErrBig)
			wantWrong(t, body(5, off, leaf(1, "x"), leaf(1, "y"), leaf(1, "z")), api.ErrBig)
			continue
		}
		wantGot(t, body(5, off, leaf(3, "x")), 5, off, []byte("xxx"))
		wantGot(t, body(5, off, leaf(1, "x"), leaf(2, "y")), 5, off, []byte("xyy"))
	}
}

func TestGetOfTimes(t *testing.T) {
	whole := bytes.Repeat([]byte{'x'}, 65536)
	wantWrong(t, body(1, 0, leaf(0, "x")), api.ErrForm)
	wantWrong(t, body(1, 0, of(0, leaf(1, "x"))), api.ErrForm)
	wantWrong(t, body(1, 0, of(1, leaf(0, "x"))), api.ErrForm)
	for n := 1; n < 65536; n += 1 + n/100 {
		wantGot(t, body(1, 0, leaf(n, "x")), 1, 0, whole[:n])
		wantGot(t, body(1, 0, of(n, leaf(1, "x"))), 1, 0, whole[:n])
		wantGot(t, body(1, 0, of(1, leaf(n, "x"))), 1, 0, whole[:n])
	}
	wantGot(t, body(1, 0, leaf(65535, "x")), 1, 0, whole[:65535])
}

func TestGetOfBytes(t *testing.T) {
	d := drawer(43)
	b := d.bytes(255)
	wantWrong(t, body(1, 0, leaf(1, "")), api.ErrForm)
	wantWrong(t, body(1, 0, of(1, leaf(1, ""))), api.ErrForm)
	for n := 1; n < 256; n++ {
		wantGot(t, body(1, 9, leaf(2, string(b[:n]))), 1, 9, slices.Concat(b[:n], b[:n]))
		wantGot(t, body(1, 9, of(2, leaf(1, string(b[:n])))), 1, 9, slices.Concat(b[:n], b[:n]))
	}
}

func TestGetOfCountsOfBlocks(t *testing.T) {
	for _, n := range []int{1, 2, 255, 256, 257, 5000, 65534, 65535} {
		want := spreadModel(of(1, many(n)...))
		wantGot(t, body(1, 0, of(1, many(n)...)), 1, 0, want)
		wantGot(t, body(1, 0, many(n)...), 1, 0, want)
	}
	wantGot(t, body(1, 0, many(65536)...), 1, 0, spreadModel(of(1, many(65536)...)))
	wantWrong(t, body(1, 0, many(65537)...), api.ErrBig)
	// More blocks told than there are: the next one's bytes are missing.
	wantWrong(t, told(t, "01 0000 0100 ffff 0100 0000 01 78"), api.ErrShort)
	wantWrong(t, told(t, "01 0000 0100 0200 0100 0000 01 78"), api.ErrShort)
	wantWrong(t, told(t, "01 0000 0100 0100"), api.ErrShort)
	wantWrong(t, told(t, "01 0000 0100 ffff"), api.ErrShort)
}

// TestGetOfLongData has more bytes than data of other records have, up to a segment's.
func TestGetOfLongData(t *testing.T) {
	whole := bytes.Repeat([]byte("ab"), 32768)
	for _, n := range []int{511, 512, 513, 1024, 2048, 32767, 32768} {
		wantGot(t, body(1, 65536-2*n, leaf(n, "ab")), 1, 65536-2*n, whole[:2*n])
	}
	wantGot(t, body(1, 0, leaf(32767, "ab"), leaf(1, "ab")), 1, 0, whole)
	wantGot(t, body(1, 0, leaf(1, "a"), leaf(32767, "ba"), leaf(1, "b")), 1, 0, whole)
	wantGot(t, body(1, 1, leaf(32767, "ab"), leaf(1, "a")), 1, 1, whole[:65535])
}

// missing has a record cut off behind each of its bytes: it is whole behind each of its blocks, and short else.
func missing(t *testing.T, seg, off int, l ...api.Block) {
	t.Helper()
	b := body(seg, off, l...)
	head := len(body(seg, off))
	ends := map[int]int{}
	for i := range l {
		ends[len(body(seg, off, l[:i+1]...))] = i + 1
	}
	for n := range len(b) + 1 {
		switch whole, is := ends[n]; {
		case is:
			wantGot(t, b[:n], seg, off, spreadModel(of(1, l[:whole]...)))
		case n == head:
			wantWrong(t, b[:n], api.ErrForm)
		default:
			wantWrong(t, b[:n], api.ErrShort)
		}
	}
}

func TestGetWithBytesMissing(t *testing.T) {
	missing(t, 1, 5, leaf(3, "x"))
	missing(t, 300, 0xff00, leaf(3, "xyz"))
	missing(t, 127, 0, leaf(3, "xyz"), leaf(1, "a"), leaf(258, "bc"))
	missing(t, 32767, 7, of(2, leaf(3, "xyz"), leaf(4, "ab")), leaf(1, "a"))
	missing(t, 1, 0, of(2, of(1, leaf(3, "xyz"), of(2, leaf(1, "c"), leaf(1, "d"))), leaf(4, "ab")), of(1, leaf(1, "a")))
	missing(t, 1, 0, chain(8, leaf(3, "xyz")), chain(7, leaf(1, "q")))
	missing(t, 2, 3, leaf(2, strings.Repeat("long", 60)), leaf(1, "z"))
	for v := range 256 {
		wantWrong(t, []byte{byte(v)}, api.ErrShort)
		wantWrong(t, []byte{byte(v), 0}, api.ErrShort)
		want := api.ErrForm
		if v > 127 {
			want = api.ErrShort
		}
		wantWrong(t, []byte{byte(v), 1, 0}, want)
	}
	wantWrong(t, nil, api.ErrShort)
	wantWrong(t, []byte{}, api.ErrShort)
}

// TestGetOfDepth has blocks too deep at each place, and whatever stands behind where the deep one begins.
func TestGetOfDepth(t *testing.T) {
	d := drawer(47)
	head := body(1, 0)
	eight := bytes.Repeat([]byte{1, 0, 1, 0}, 8)
	for n := range 9 {
		b := slices.Concat(head, eight[:4*n])
		switch {
		case n == 0:
			wantWrong(t, b, api.ErrForm)
		case n < 8:
			wantWrong(t, b, api.ErrShort)
			wantGot(t, append(b, 2, 0, 0, 0, 1, 'x'), 1, 0, []byte("xx"))
		default:
			// Even if nothing stands there.
			wantWrong(t, b, api.ErrBig)
		}
	}
	wantWrong(t, slices.Concat(head, eight, []byte{2, 0, 0, 0, 1, 'x'}), api.ErrBig)
	for n := range 40 {
		wantWrong(t, slices.Concat(head, eight, d.bytes(n)), api.ErrBig)
		wantWrong(t, slices.Concat(head, eight, make([]byte, n)), api.ErrBig)
		wantWrong(t, slices.Concat(head, eight, bytes.Repeat([]byte{255}, n)), api.ErrBig)
	}
	for deep := 9; deep < 30; deep++ {
		wantWrong(t, body(1, 0, chain(deep, leaf(1, "x"))), api.ErrBig)
		wantWrong(t, body(1, 0, leaf(1, "a"), chain(deep, leaf(1, "x")), leaf(1, "b")), api.ErrBig)
		wantWrong(t, body(1, 0, of(1, leaf(1, "a"), chain(deep-1, leaf(1, "x")), leaf(1, "b"))), api.ErrBig)
		wantWrong(t, body(1, 0, of(1, chain(7, leaf(1, "a")), chain(deep-1, leaf(1, "x")))), api.ErrBig)
	}
	wantWrong(t, slices.Concat(head, bytes.Repeat([]byte{1, 0, 1, 0}, 65536), []byte{2, 0, 0, 0, 1, 'x'}), api.ErrBig)
	wantWrong(t, slices.Concat(head, bytes.Repeat([]byte{255}, 1<<20)), api.ErrBig)
	// Many of eight are no deeper than one.
	wantGot(t, body(1, 0, of(1, chain(7, leaf(1, "a")), chain(7, leaf(1, "b"))), chain(8, leaf(1, "c"))), 1, 0, []byte("abc"))
}

// TestGetOfWhatMayNotBe has a block that may not be at each place.
func TestGetOfWhatMayNotBe(t *testing.T) {
	for _, wrong := range []api.Block{{}, leaf(0, "x"), leaf(1, ""), of(0, leaf(1, "x")), of(1, leaf(0, "x")), of(1, leaf(1, "")), chain(8, leaf(0, "x")), chain(8, leaf(5, ""))} {
		for at := range 4 {
			l := many(4)
			l[at] = wrong
			wantWrong(t, body(1, 0, l...), api.ErrForm)
			wantWrong(t, body(1, 65500, l...), api.ErrForm)
			if deepOf(wrong) < 8 {
				wantWrong(t, body(1, 0, of(1, l...)), api.ErrForm)
			}
		}
	}
	wantWrong(t, told(t, "01 0500"), api.ErrForm)
	wantWrong(t, told(t, "00 0500"), api.ErrForm)
	wantWrong(t, told(t, "8000 0500"), api.ErrForm)
	wantWrong(t, told(t, "00 0500 0100 0000 01 78"), api.ErrForm)
	wantWrong(t, told(t, "8000 0500 0100 0000 01 78"), api.ErrForm)
}

func TestGetOfTooMuch(t *testing.T) {
	for _, l := range [][]api.Block{
		{leaf(32769, "ab")}, {leaf(65535, "ab")}, {of(65535, leaf(65535, "x"))}, {of(257, leaf(256, "x"))}, {leaf(32768, "ab"), leaf(1, "c")}, {leaf(1, "c"), leaf(32768, "ab")},
		{leaf(65535, "x"), leaf(2, "y")}, {leaf(65535, "x"), leaf(1, "y"), leaf(1, "z")}, {leaf(65535, "x"), leaf(65535, "y")}, {of(1, leaf(65535, "x"), leaf(1, "y"), leaf(1, "z"))},
		{of(65535, of(65535, of(65535, of(65535, of(65535, of(65535, of(65535, leaf(65535, strings.Repeat("x", 255)))))))))},
		{of(65535, of(65535, of(65535, of(65535, leaf(65535, "x")))))}, {of(256, of(256, of(256, of(256, of(256, of(256, of(256, leaf(256, "x"))))))))},
	} {
		wantWrong(t, body(1, 0, l...), api.ErrBig)
	}
	for n := 1; n < 65536; n += 1 + n/90 {
		want := bytes.Repeat([]byte{'x'}, n)
		wantGot(t, body(9, 65536-n, leaf(n, "x")), 9, 65536-n, want)
		wantGot(t, body(9, 65535-n, leaf(n, "x")), 9, 65535-n, want)
		if n > 1 {
			wantWrong(t, body(9, 65537-n, leaf(n, "x")), api.ErrBig)
			wantWrong(t, body(9, 65537-n, of(1, leaf(1, "x"), leaf(n-1, "x"))), api.ErrBig)
			wantWrong(t, body(9, 65537-n, leaf(n-1, "x"), leaf(1, "x")), api.ErrBig)
			wantWrong(t, body(9, 65537-n, leaf(1, "x"), leaf(n-1, "x")), api.ErrBig)
		}
	}
}

// TestGetWhereTwoAreWrong has what is told of two errors: block by block, and of one block as the chapter names them.
func TestGetWhereTwoAreWrong(t *testing.T) {
	deep := chain(9, leaf(1, "x"))
	none := leaf(0, "y")
	great := of(65535, leaf(65535, "z"))
	short := told(t, "0100 0000 05 78")
	for _, seg := range []int{0, 1} {
		for _, c := range []struct {
			l    []api.Block
			want api.Errno
		}{
			{[]api.Block{deep, none}, api.ErrBig}, {[]api.Block{none, deep}, api.ErrForm}, {[]api.Block{great, none}, api.ErrBig}, {[]api.Block{none, great}, api.ErrForm}, {[]api.Block{great, deep}, api.ErrBig},
			{[]api.Block{of(0, deep)}, api.ErrBig}, {[]api.Block{of(1, none, chain(8, leaf(1, "x")))}, api.ErrBig}, {[]api.Block{of(1, chain(8, leaf(1, "x")), none)}, api.ErrBig},
			{[]api.Block{of(1, great, none)}, api.ErrForm}, {[]api.Block{of(1, none, great)}, api.ErrForm}, {[]api.Block{of(0, great)}, api.ErrForm},
			{[]api.Block{of(1, great, chain(8, leaf(1, "x")))}, api.ErrBig}, {[]api.Block{leaf(65535, "a"), leaf(65535, "b"), none}, api.ErrBig}, {[]api.Block{leaf(65535, "a"), none, leaf(65535, "b")}, api.ErrForm},
		} {
			wantWrong(t, body(seg, 0, c.l...), c.want)
			// What is missing behind them is not reached.
			wantWrong(t, append(body(seg, 0, c.l...), short...), c.want)
			wantWrong(t, append(body(seg, 0, c.l...), 1), c.want)
		}
		// What is missing ahead of them is.
		wantWrong(t, append(body(seg, 0, leaf(1, "a")), short...), api.ErrShort)
		wantWrong(t, append(body(seg, 0), 1, 0, 1), api.ErrShort)
		wantWrong(t, append(body(seg, 65535), 2, 0, 0, 0, 2, 1), api.ErrShort)
	}
	// Of one block what is missing is told ahead of what may not be, and of what is too much.
	for _, text := range []string{"0000 0000", "0000 0000 02 78", "0000 0100 0100 0000", "0100 0200 0000 0000 01 78", "0100 0200 0100 0000 00", "ffff 0200 ffff 0000 01 78 0100", "0000 0200 ffff ffff 00"} {
		wantWrong(t, append(body(1, 0), told(t, text)...), api.ErrShort)
		wantWrong(t, append(body(0, 0), told(t, text)...), api.ErrShort)
	}
	// What is missing of the head is told, whatever it says.
	wantWrong(t, told(t, "00 05"), api.ErrShort)
	wantWrong(t, told(t, "8000 05"), api.ErrShort)
}

// cursor goes through bytes by their numbers; what is wrong it tells by a panic.
type cursor struct {
	b  []byte
	at int
}

func (c *cursor) byte() int {
	if c.at >= len(c.b) {
		panic(api.ErrShort)
	}
	c.at++
	return int(c.b[c.at-1])
}

func (c *cursor) word() int {
	low := c.byte()
	return low + 256*c.byte()
}

func (c *cursor) block(deep int) api.Block {
	if deep > 8 {
		panic(api.ErrBig)
	}
	b := api.Block{Times: c.word()}
	inner := c.word()
	if inner > 0 {
		for range inner {
			b.Blocks = append(b.Blocks, c.block(deep+1))
		}
		return b
	}
	for range c.byte() {
		b.Bytes = append(b.Bytes, byte(c.byte()))
	}
	return b
}

// getModel holds nothing of what the package stands on.
func getModel(b []byte) (d api.Data, e api.Errno) {
	defer func() {
		if told := recover(); told != nil {
			d, e = api.Data{}, told.(api.Errno)
		}
	}()
	c := &cursor{b: b}
	d.Seg = c.byte()
	if d.Seg > 127 {
		d.Seg = (d.Seg-128)*256 + c.byte()
	}
	d.Off = uint16(c.word())
	for c.at < len(b) {
		one := c.block(1)
		if !mayModel(one) {
			panic(api.ErrForm)
		}
		if sizeModel(one) > 65536 || int(d.Off)+len(d.Bytes)+sizeModel(one) > 65536 {
			panic(api.ErrBig)
		}
		d.Bytes = append(d.Bytes, spreadModel(one)...)
	}
	if d.Seg == 0 || d.Bytes == nil {
		panic(api.ErrForm)
	}
	return d, api.OK
}

// hold has Get beside the model, and tells the error.
func hold(t *testing.T, b []byte) api.Errno {
	t.Helper()
	want, e := getModel(b)
	if e != api.OK {
		wantWrong(t, b, e)
		return e
	}
	wantGot(t, b, want.Seg, int(want.Off), want.Bytes)
	return e
}

// TestGetOfAllShortBytes has all bytes of few, up to eight of them behind a head.
func TestGetOfAllShortBytes(t *testing.T) {
	few := []byte{0, 1, 2, 0xff}
	for many := range 9 {
		for _, head := range [][]byte{{1, 0, 0}, {1, 0xfe, 0xff}, {0, 0, 0}} {
			all := 1
			for range many {
				all *= len(few)
			}
			b := append(slices.Clone(head), make([]byte, many)...)
			for n := range all {
				for i := range many {
					b[3+i] = few[n%len(few)]
					n /= len(few)
				}
				hold(t, b)
			}
		}
	}
}

// TestGetBesideTheModel has records of drawn blocks, some of them bent at a byte, or cut off.
func TestGetBesideTheModel(t *testing.T) {
	d := drawer(53)
	var seen [9]int
	for range 30000 {
		var l []api.Block
		for range d.below(4) {
			switch d.below(6) {
			case 0:
				l = append(l, d.any(1+d.below(4)))
			case 1:
				l = append(l, chain(1+d.below(9), d.small(1+d.below(2))))
			case 2:
				l = append(l, d.good(1+d.below(3)))
			default:
				l = append(l, d.small(1+d.below(8)))
			}
		}
		off := []int{0, 1, 65535, 65500, d.below(65536), d.below(300)}[d.below(6)]
		b := Record([]int{0, 1, 128, d.below(32768)}[min(d.below(8), 3)], uint16(off), l).Body
		switch d.below(4) {
		case 0:
			b = b[:d.below(len(b)+1)]
		case 1:
			b[d.below(len(b))] = []byte{0, 1, 255, d.byte()}[d.below(4)]
		}
		seen[hold(t, b)]++
	}
	for _, e := range []api.Errno{api.OK, api.ErrShort, api.ErrForm, api.ErrBig} {
		if seen[e] < 1000 {
			t.Error("of the drawn ones just", seen[e], "are", e)
		}
	}
}

// TestGetOfDrawnBytes has bytes of nothing.
func TestGetOfDrawnBytes(t *testing.T) {
	d := drawer(59)
	for range 30000 {
		b := d.bytes(d.below(60))
		if d.below(2) == 0 {
			for i := range b {
				b[i] %= 3
			}
		}
		hold(t, b)
	}
}
