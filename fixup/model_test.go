package fixup

import (
	"slices"
	"testing"

	"hansom/api"
)

// cursor goes through bytes by their numbers; what is wrong it tells by a panic.
type cursor struct {
	b  []byte
	at int
}

func (c *cursor) byte() int {
	if c.at >= len(c.b) {
		panic(api.ErrShort)
	}
	c.at++
	return int(c.b[c.at-1])
}

func (c *cursor) index() int {
	n := c.byte()
	if n > 127 {
		n = (n-128)*256 + c.byte()
	}
	return n
}

// thread is the next thread, whose first byte is taken.
func (c *cursor) thread(first int, behind *api.Threads) {
	of, by := &behind.Frame, first%32/4
	if first < 64 {
		of, by = &behind.Target, first%16/4
	}
	if first%64 >= 32 || by == 3 || by == 6 || by == 7 {
		panic(api.ErrForm)
	}
	one := api.Thread{Is: true, By: by}
	if by < 3 {
		one.N = c.index()
	}
	of[first%4] = one
}

// fixup is the next fixup, whose first byte is taken.
func (c *cursor) fixup(first int, told api.Threads) api.Fixup {
	f := api.Fixup{Self: first < 192, Loc: first % 64 / 4}
	f.At = first%4*256 + c.byte()
	third := c.byte()
	f.Frame, f.Target = third/16, third%4
	switch {
	case third > 127:
		one := told.Frame[third/16%4]
		if !one.Is {
			panic(api.ErrIndex)
		}
		f.Frame, f.FrameN = one.By, one.N
	case f.Frame < 3:
		f.FrameN = c.index()
	}
	if third%16 > 7 {
		one := told.Target[third%4]
		if !one.Is {
			panic(api.ErrIndex)
		}
		f.Target, f.N = one.By, one.N
	} else {
		f.N = c.index()
	}
	if third%8 < 4 {
		low := c.byte()
		f.Disp = uint16(low + 256*c.byte())
	}
	return f
}

// getModel holds nothing of what the package stands on.
func getModel(b []byte, n int, told api.Threads) (l []api.Fixup, behind api.Threads, e api.Errno) {
	defer func() {
		if wrong := recover(); wrong != nil {
			l, behind, e = nil, api.Threads{}, wrong.(api.Errno)
		}
	}()
	behind = told
	c := &cursor{b: b}
	for c.at < len(b) {
		first := c.byte()
		if first < 128 {
			c.thread(first, &behind)
			continue
		}
		f := c.fixup(first, behind)
		if !mayModel(f, n) {
			panic(api.ErrForm)
		}
		l = append(l, f)
	}
	return l, behind, api.OK
}

// hold has Get beside the model, and tells the error.
func hold(t *testing.T, b []byte, n int, with api.Threads) api.Errno {
	t.Helper()
	want, behind, e := getModel(b, n, with)
	if e != api.OK {
		wantWrong(t, b, n, with, e)
		return e
	}
	wantGot(t, b, n, with, want, behind)
	return e
}

// some is threads of which some are told.
func (d *drawer) some() api.Threads {
	some := all
	for i := range 4 {
		if d.below(3) == 0 {
			some.Frame[i] = api.Thread{}
		}
		if d.below(3) == 0 {
			some.Target[i] = api.Thread{}
		}
	}
	return some
}

// subrecord is the bytes of a thread, or of a fixup that means threads, or tells all itself.
func (d *drawer) subrecord() []byte {
	switch d.below(4) {
	case 0:
		first := d.below(128)
		if d.below(8) > 0 {
			first &^= 0x20
		}
		by := first / 4 % 8
		if first < 64 {
			by %= 4
		}
		b := []byte{byte(first)}
		if by < 3 {
			b = append(b, indexed(d.index())...)
		}
		return b
	case 1, 2:
		f := d.good()
		b := putModel(f)
		rest := b[3:]
		if f.Frame < 3 && d.below(2) == 0 {
			rest = rest[len(indexed(f.FrameN)):]
			b[2] = b[2]&15 | 0x80 | byte(d.below(8)<<4)
		}
		if b[2] >= 128 && d.below(2) == 0 {
			rest = rest[len(indexed(f.N)):]
			b[2] = b[2]&^3 | 8 | byte(d.below(4))
		}
		return append(slices.Clone(b[:3]), rest...)
	}
	return putModel(d.good())
}

// TestGetOfAllShortBytes has all bytes of few, up to six of them.
func TestGetOfAllShortBytes(t *testing.T) {
	few := []byte{0, 1, 2, 0x44, 0x51, 0x80, 0x8c, 0xc4, 0xff}
	some := set(set(no, true, 0, api.Thread{Is: true, By: 4}), false, 0, api.Thread{Is: true, By: 2, N: 9})
	for many := range 7 {
		all := 1
		for range many {
			all *= len(few)
		}
		b := make([]byte, many)
		for n := range all {
			for i := range b {
				b[i] = few[n%len(few)]
				n /= len(few)
			}
			hold(t, b, 600, some)
		}
	}
}

// TestGetOfHeads has all first bytes with all third ones, whatever stands behind them.
func TestGetOfHeads(t *testing.T) {
	d := drawer(101)
	for first := 128; first < 256; first++ {
		for third := range 256 {
			rest := []byte{byte(1 + d.below(127)), byte(1 + d.below(127)), byte(d.below(64)), 5, 1, 2}
			for n := range len(rest) + 1 {
				b := append([]byte{byte(first), d.byte(), byte(third)}, rest[:n]...)
				hold(t, b, 1024, all)
				hold(t, b, 1024, no)
			}
		}
	}
}

// TestGetBesideTheModel has records of threads and fixups, some of them bent at a byte, or cut off.
func TestGetBesideTheModel(t *testing.T) {
	d := drawer(103)
	var seen [9]int
	for range 60000 {
		var b []byte
		for range d.below(6) {
			b = append(b, d.subrecord()...)
		}
		switch d.below(5) {
		case 0:
			b = b[:d.below(len(b)+1)]
		case 1:
			if len(b) > 0 {
				b[d.below(len(b))] = []byte{0, 1, 255, d.byte()}[d.below(4)]
			}
		}
		n := []int{1024, 1030, 1030, 1030, d.below(1200)}[d.below(5)]
		with := []api.Threads{all, all, no, d.some()}[d.below(4)]
		seen[hold(t, b, n, with)]++
	}
	for _, e := range []api.Errno{api.OK, api.ErrShort, api.ErrForm, api.ErrIndex} {
		if seen[e] < 2000 {
			t.Error("of the drawn ones just", seen[e], "are", e)
		}
	}
}

// TestGetOfDrawnBytes has bytes of nothing.
func TestGetOfDrawnBytes(t *testing.T) {
	d := drawer(107)
	for range 60000 {
		b := d.bytes(d.below(40))
		if d.below(2) == 0 {
			for i := range b {
				b[i] &= 0xdf
			}
		}
		hold(t, b, []int{1024, 1030, 65536, d.below(1100), 0, -1}[d.below(6)], []api.Threads{all, no, d.some()}[d.below(3)])
	}
}
