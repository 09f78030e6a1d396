package segs

import (
	"fmt"
	"slices"
	"testing"

	"hansom/api"
)

// byHand are segments, and their records' bytes.
var byHand = []struct {
	s    api.SegDef
	text string
}{
	{api.SegDef{}, "00 0000 00 0000 00 00 00"},
	{api.SegDef{Align: 1}, "20 0000 00 00 00"},
	{api.SegDef{Align: 3, Combine: 2, Len: 5, Name: 2}, "68 0500 02 00 00"},
	{api.SegDef{Align: 3, Combine: 2, Len: 5, Name: 2, Class: 3, Overlay: 1}, "68 0500 02 03 01"},
	{api.SegDef{Align: 2, Combine: 0, Len: 0x1234, Name: 127, Class: 128, Overlay: 300}, "40 3412 7f 8080 812c"},
	{api.SegDef{Align: 3, Combine: 5, Len: 0x200, Name: 5, Class: 5, Overlay: 1}, "74 0002 05 05 01"},
	{api.SegDef{Align: 4, Combine: 6, Len: 0xffff, Name: 0x7fff, Class: 0x1234, Overlay: 0}, "98 ffff ffff 9234 00"},
	{api.SegDef{Align: 1, Combine: 0, Len: 0x10000, Name: 1, Class: 2, Overlay: 3}, "22 0000 01 02 03"},
	{api.SegDef{Align: 3, Combine: 2, Len: 0x10000, Name: 1, Class: 2, Overlay: 3}, "6a 0000 01 02 03"},
	{api.SegDef{Align: 4, Combine: 6, Len: 0x10000, Name: 128, Class: 0, Overlay: 0x7fff}, "9a 0000 8080 00 ffff"},
	{api.SegDef{Align: 0, Combine: 0, Frame: 0xb800, Offset: 0x0c, Len: 4000, Name: 2, Class: 1, Overlay: 1}, "00 00b8 0c a00f 02 01 01"},
	{api.SegDef{Align: 0, Combine: 2, Frame: 0x1234, Offset: 0xff, Len: 0x10000, Name: 2, Class: 300, Overlay: 1}, "0a 3412 ff 0000 02 812c 01"},
	{api.SegDef{Align: 0, Combine: 5, Frame: 0x40, Offset: 0, Len: 1, Name: 1, Class: 1, Overlay: 1}, "14 4000 00 0100 01 01 01"},
	{api.SegDef{Align: 0, Combine: 6, Frame: 0, Offset: 0x10, Len: 0, Name: 0, Class: 0, Overlay: 2}, "18 0000 10 0000 00 00 02"},
}

func TestSegmentByHand(t *testing.T) {
	for _, c := range byHand {
		b := told(t, c.text)
		wantSegment(t, c.s, b)
		wantDef(t, b, c.s, api.OK)
	}
}

// TestSegmentOfEachEdge puts each part together with each other one: Align, Combine, the length, one index and another.
func TestSegmentOfEachEdge(t *testing.T) {
	for _, a := range alignBytes {
		for _, c := range combineBytes {
			for _, n := range lens {
				for i, ind := range inds {
					other := inds[(i+6)%len(inds)]
					s := api.SegDef{Align: a.align, Combine: c.combine, Len: n.n, Name: ind.n, Class: other.n, Overlay: inds[i/2].n}
					text := fmt.Sprintf("%02x", a.in+c.in+n.bit)
					if a.align == 0 {
						s.Frame, s.Offset = 0xb81f, 0x7e
						text += "1fb8 7e"
					}
					b := told(t, text+n.text+ind.text+other.text+inds[i/2].text)
					wantSegment(t, s, b)
					wantDef(t, b, s, api.OK)
				}
			}
		}
	}
}

func TestSegmentOfEveryLen(t *testing.T) {
	for n := range 1 << 16 {
		s := api.SegDef{Align: 3, Combine: 2, Len: n, Name: 1, Class: 2, Overlay: 3}
		b := []byte{0x68, byte(n % 256), byte(n / 256), 1, 2, 3}
		wantSegment(t, s, b)
		wantDef(t, b, s, api.OK)
	}
}

func TestSegmentOfEveryFrameAndOffset(t *testing.T) {
	for n := range 1 << 16 {
		s := api.SegDef{Frame: uint16(n), Offset: byte(n * 7), Len: 6}
		b := []byte{0, byte(n % 256), byte(n / 256), byte(n * 7), 6, 0, 0, 0, 0}
		wantSegment(t, s, b)
		wantDef(t, b, s, api.OK)
	}
}

func TestSegmentOfEveryIndex(t *testing.T) {
	for n := range api.MostIndex + 1 {
		ind := []byte{byte(n)}
		if n > 127 {
			ind = []byte{byte(128 + n/256), byte(n % 256)}
		}
		for at, put := range puts {
			s := api.SegDef{Align: 1, Len: 2, Name: 4, Class: 5, Overlay: 6}
			put(&s, n)
			parts := [][]byte{{0x20, 2, 0}, {4}, {5}, {6}}
			parts[at+1] = ind
			b := slices.Concat(parts...)
			wantSegment(t, s, b)
			wantDef(t, b, s, api.OK)
		}
	}
}

func TestNoSegment(t *testing.T) {
	for _, c := range byHand {
		for _, n := range noAligns {
			s := c.s
			s.Align = n
			wantNoSegment(t, s)
		}
		for _, n := range noCombines {
			s := c.s
			s.Combine = n
			wantNoSegment(t, s)
		}
		for _, n := range noLens {
			s := c.s
			s.Len = n
			wantNoSegment(t, s)
		}
		for _, put := range puts {
			for _, n := range noIndices {
				s := c.s
				put(&s, n)
				wantNoSegment(t, s)
			}
		}
	}
	for align := 1; align <= 4; align++ {
		for n := 1; n < 1<<16; n++ {
			wantNoSegment(t, api.SegDef{Align: align, Frame: uint16(n), Len: 5, Name: 2})
		}
		for n := 1; n < 1<<8; n++ {
			wantNoSegment(t, api.SegDef{Align: align, Offset: byte(n), Len: 5, Name: 2})
		}
	}
}

// drawn is a segment that may be.
func (d *drawer) drawn() api.SegDef {
	s := api.SegDef{
		Align:   d.below(5),
		Combine: []int{0, 2, 5, 6}[d.below(4)],
		Len:     d.below(65537),
		Name:    d.below(32768) >> d.below(15),
		Class:   d.below(32768) >> d.below(15),
		Overlay: d.below(32768) >> d.below(15),
	}
	if d.below(4) == 0 {
		s.Len = 65536
	}
	if s.Align == 0 {
		s.Frame, s.Offset = uint16(d.below(65536)), d.byte()
	}
	return s
}

func TestDefOfSegment(t *testing.T) {
	d := drawer(211)
	for range 50000 {
		s := d.drawn()
		wantMay(t, s, true)
		r, ok := Segment(s)
		if !ok || r.Kind != api.RecSegdef {
			t.Fatalf("Segment(%+v) is %x, %v", s, r.Kind, ok)
		}
		wantDef(t, r.Body, s, api.OK)
		wantSegment(t, s, r.Body)
	}
}

func TestDefMissing(t *testing.T) {
	d := drawer(212)
	wantDef(t, nil, api.SegDef{}, api.ErrShort)
	wantDef(t, []byte{}, api.SegDef{}, api.ErrShort)
	for _, c := range byHand {
		b := told(t, c.text)
		for have := range b {
			wantDef(t, b[:have], api.SegDef{}, api.ErrShort)
		}
	}
	for range 5000 {
		r, _ := Segment(d.drawn())
		for have := range r.Body {
			wantDef(t, r.Body[:have], api.SegDef{}, api.ErrShort)
		}
	}
	// Whatever the first byte says: bytes are missing, and that is named ahead of their form.
	for head := range 256 {
		b := []byte{byte(head)}
		if head < 32 {
			b = append(b, 0x34, 0x12, 7)
		}
		b = append(b, 1, 2, 3, 4, 5)
		for have := range b {
			wantDef(t, b[:have], api.SegDef{}, api.ErrShort)
		}
	}
}

func TestDefLeft(t *testing.T) {
	d := drawer(213)
	for _, c := range byHand {
		b := told(t, c.text)
		for _, left := range []int{1, 2, 3, 4, 100, 4000, 1 << 20} {
			wantDef(t, slices.Concat(b, d.bytes(left)), api.SegDef{}, api.ErrForm)
		}
		for one := range 256 {
			wantDef(t, slices.Concat(b, []byte{byte(one)}), api.SegDef{}, api.ErrForm)
		}
		wantDef(t, slices.Concat(b, b), api.SegDef{}, api.ErrForm)
	}
}

// TestDefOfEveryHead has each first byte with bytes behind it that are as many as they are to be.
func TestDefOfEveryHead(t *testing.T) {
	for head := range 256 {
		for _, word := range []int{0, 1, 0x100, 0x1234, 0x8000, 0xffff} {
			s := api.SegDef{Align: head / 32, Combine: head / 4 % 8, Len: word, Name: 1, Class: 300, Overlay: 3}
			b := []byte{byte(head)}
			if head < 32 {
				s.Frame, s.Offset = 0x1234, 7
				b = append(b, 0x34, 0x12, 7)
			}
			b = append(b, byte(word%256), byte(word/256), 1, 0x81, 0x2c, 3)
			is := head%2 == 0 && s.Align <= 4 && slices.Contains([]int{0, 2, 5, 6}, s.Combine)
			if head/2%2 == 1 {
				is = is && word == 0
				s.Len = 65536
			}
			if is {
				wantDef(t, b, s, api.OK)
			} else {
				wantDef(t, b, api.SegDef{}, api.ErrForm)
			}
		}
	}
}

func TestDefLastBit(t *testing.T) {
	for _, c := range byHand {
		b := told(t, c.text)
		b[0] |= 1
		wantDef(t, b, api.SegDef{}, api.ErrForm)
		wantDef(t, append(b, 0), api.SegDef{}, api.ErrForm)
	}
}

func TestDefWholeWithAnotherLength(t *testing.T) {
	for word := range 1 << 16 {
		b := []byte{0x6a, byte(word % 256), byte(word / 256), 1, 2, 3}
		at := []byte{0x0a, 0x34, 0x12, 7, byte(word % 256), byte(word / 256), 1, 2, 3}
		if word == 0 {
			wantDef(t, b, api.SegDef{Align: 3, Combine: 2, Len: 65536, Name: 1, Class: 2, Overlay: 3}, api.OK)
			wantDef(t, at, api.SegDef{Combine: 2, Frame: 0x1234, Offset: 7, Len: 65536, Name: 1, Class: 2, Overlay: 3}, api.OK)
			continue
		}
		wantDef(t, b, api.SegDef{}, api.ErrForm)
		wantDef(t, at, api.SegDef{}, api.ErrForm)
	}
}

func TestDefLongIndexOfLittle(t *testing.T) {
	// Of two bytes where one would do: the same segment.
	wantDef(t, told(t, "68 0500 8002 8003 8000"), api.SegDef{Align: 3, Combine: 2, Len: 5, Name: 2, Class: 3}, api.OK)
	wantDef(t, told(t, "68 0500 8002 03 807f"), api.SegDef{Align: 3, Combine: 2, Len: 5, Name: 2, Class: 3, Overlay: 127}, api.OK)
}

// modelDef is what bytes tell, by where each part stands in them.
func modelDef(b []byte) (api.SegDef, api.Errno) {
	at := func(i int) int {
		if i < len(b) {
			return int(b[i])
		}
		return 0
	}
	s := api.SegDef{Align: at(0) / 32, Combine: at(0) % 32 / 4}
	next := 1
	if s.Align == 0 {
		s.Frame, s.Offset = uint16(at(1)+256*at(2)), byte(at(3))
		next = 4
	}
	s.Len = at(next) + 256*at(next+1)
	next += 2
	for _, put := range puts {
		n, many := at(next), 1
		if n > 127 {
			n, many = (n-128)*256+at(next+1), 2
		}
		put(&s, n)
		next += many
	}
	if len(b) < next {
		return api.SegDef{}, api.ErrShort
	}
	right := len(b) == next && b[0]%2 == 0 && s.Align < 5
	right = right && s.Combine != 1 && s.Combine != 3 && s.Combine != 4 && s.Combine != 7
	if b[0]%4 >= 2 {
		right = right && s.Len == 0
		s.Len = 65536
	}
	if !right {
		return api.SegDef{}, api.ErrForm
	}
	return s, api.OK
}

func TestDefByModel(t *testing.T) {
	d := drawer(214)
	var right int
	for range 400000 {
		b := d.bytes(d.below(14))
		if len(b) > 0 && d.below(2) == 0 {
			b[0] &^= 3
		}
		if len(b) > 6 && d.below(2) == 0 {
			b[1], b[2], b[4], b[5] = b[1]&1, 0, b[4]&1, b[5]&1
		}
		s, e := modelDef(b)
		wantDef(t, b, s, e)
		if e != api.OK {
			continue
		}
		right++
		wantMay(t, s, true)
		r, ok := Segment(s)
		if !ok {
			t.Fatalf("Segment(%+v) is nothing", s)
		}
		wantDef(t, r.Body, s, api.OK)
	}
	if right < 1000 {
		t.Error("only", right, "of these were right")
	}
}

// TestDefOfShortBytes asks all bytes of up to six whose letters are few.
func TestDefOfShortBytes(t *testing.T) {
	letters := []byte{0, 1, 2, 0x20, 0x6a, 0x80, 0x9c, 0xff}
	var all func(b []byte)
	all = func(b []byte) {
		s, e := modelDef(b)
		wantDef(t, b, s, e)
		if len(b) < 6 {
			for _, one := range letters {
				all(append(b, one))
			}
		}
	}
	all(nil)
	for _, head := range []byte{0, 2, 8, 0x0a, 0x21, 0x60, 0x82} {
		for _, more := range []byte{0, 1} {
			all([]byte{head, more})
		}
	}
}
