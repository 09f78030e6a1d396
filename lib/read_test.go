package lib

import (
	"fmt"
	"math"
	"testing"

	"hansom/api"
)

// head is a first page's bytes that tell something.
func head(kind byte, page uint16, begins uint32, blocks uint16, last byte) []byte {
	return []byte{kind, byte(page), byte(page >> 8), byte(begins), byte(begins >> 8), byte(begins >> 16), byte(begins >> 24), byte(blocks), byte(blocks >> 8), last}
}

// readModel is what Read tells of bytes: the page and the number of blocks.
func readModel(b []byte) (int, int, api.Errno) {
	if len(b) > 2097152 {
		return 0, 0, api.ErrBig
	}
	if len(b) < 10 {
		return 0, 0, api.ErrShort
	}
	page := int(b[1]) + 256*int(b[2]) + 3
	begins := int(b[3]) + 256*int(b[4]) + 65536*int(b[5]) + 16777216*int(b[6])
	blocks := int(b[7]) + 256*int(b[8])
	is := false
	for _, size := range sizes {
		is = is || page == size
	}
	if !is || b[0] != 0xf0 || b[9] != 1 || blocks == 0 || begins%512 > 0 || begins < page {
		return 0, 0, api.ErrForm
	}
	if begins+512*blocks > len(b) {
		return 0, 0, api.ErrShort
	}
	return page, blocks, api.OK
}

// wantRead holds Read against the model.
func wantRead(t testing.TB, what string, b []byte) {
	t.Helper()
	page, blocks, e := readModel(b)
	if e != api.OK {
		wantReadError(t, what, b, e)
		return
	}
	x, e := Read(b)
	if e != api.OK || x.Page() != page || x.Blocks() != blocks {
		t.Fatalf("Read, %s: Page %d, Blocks %d, %d; want %d, %d", what, x.Page(), x.Blocks(), e, page, blocks)
	}
}

func TestReadByHand(t *testing.T) {
	one := joined(upTo(16, told("f0 0d00 00020000 0100 01")), upTo(32, told(handX)), upTo(512-48, told("f1 0d00")),
		madeBlock(map[int]byte{9: 0x13}, 0x15, "01 58 0100"))
	x := mustRead(t, one)
	if x.Page() != 16 || x.Blocks() != 1 {
		t.Errorf("Page %d, Blocks %d", x.Page(), x.Blocks())
	}
	wantFind(t, x, "X", 1)
	wantFind(t, x, "x", 0)
	wantFind(t, x, "Y", 0)
	wantModule(t, x, 1, gives("X"))

	two := joined(upTo(1024, told("f0 fd03 000a0000 0200 01")), upTo(1024, told(handYz)), upTo(512, told("f1 fd03")),
		madeBlock(map[int]byte{11: 0x13}, 0x15, "01 7a 3412"), madeBlock(map[int]byte{10: 0x13}, 0x15, "01 59 0100"))
	x = mustRead(t, two)
	if x.Page() != 1024 || x.Blocks() != 2 {
		t.Errorf("Page %d, Blocks %d", x.Page(), x.Blocks())
	}
	// One letter: block 21, which is the second one of two, and 61 by 61 farther.
	wantFind(t, x, "Y", 1)
	wantFind(t, x, "z", 0)
	wantModule(t, x, 1, gives("Y", "z"))
	// If the second block is full, it may stand in the first one.
	two[2560+512+37] = 0xff
	wantFind(t, mustRead(t, two), "z", 0x1234)
}

// TestThereAndBack reads what is written, with bytes behind it, and without.
func TestThereAndBack(t *testing.T) {
	for _, page := range sizes {
		b := mustWrite(t, sample(), page)
		for _, more := range [][]byte{nil, {0}, told("f0 0d00 00020000 0100 01"), noughts(512), noughts(5000)} {
			x := mustRead(t, joined(b, more))
			if x.Page() != page || x.Blocks() != 1 {
				t.Errorf("Page %d, Blocks %d; want %d, 1", x.Page(), x.Blocks(), page)
			}
			for _, m := range sample() {
				for _, p := range m.Pubs {
					wantModule(t, x, x.Find(p.Name), m)
				}
			}
			wantModule(t, x, 1, sample()[0])
			if page >= 256 {
				for i, m := range sample() {
					wantModule(t, x, 1+i, m)
				}
			}
		}
	}
}

// TestReadEachBeginning misses bytes, each count of them.
func TestReadEachBeginning(t *testing.T) {
	for _, page := range []int{16, 512, 1024} {
		b := mustWrite(t, giveAll(drawnNames(80), 30), page)
		for n := range len(b) {
			wantReadError(t, fmt.Sprintf("%d of %d bytes", n, len(b)), b[:n:n], api.ErrShort)
		}
		mustRead(t, b)
	}
}

func drawnNames(many int) []string {
	d := drawer(279)
	return d.names(many, 0, 9)
}

func TestReadShort(t *testing.T) {
	wantReadError(t, "nothing", nil, api.ErrShort)
	wantReadError(t, "nothing", []byte{}, api.ErrShort)
	for n := range 10 {
		wantReadError(t, "noughts", noughts(n), api.ErrShort)
		wantReadError(t, "a beginning", head(0xf0, 13, 512, 1, 1)[:n], api.ErrShort)
		wantReadError(t, "another first byte", head(0xf1, 13, 512, 1, 1)[:n], api.ErrShort)
	}
	wantReadError(t, "ten noughts", noughts(10), api.ErrForm)
	wantReadError(t, "ten bytes", head(0xf0, 13, 512, 1, 1), api.ErrShort)
	// A dictionary of which bytes are missing.
	for _, c := range []struct {
		begins uint32
		blocks uint16
	}{{512, 1}, {512, 2}, {1024, 1}, {1024, 7}, {65536, 3}, {512, 4000}} {
		b := upTo(int(c.begins)+512*int(c.blocks), head(0xf0, 13, c.begins, c.blocks, 1))
		mustRead(t, b)
		wantReadError(t, "a byte fewer", b[:len(b)-1], api.ErrShort)
		wantReadError(t, "a block fewer", b[:len(b)-512], api.ErrShort)
		wantReadError(t, "no dictionary", b[:c.begins], api.ErrShort)
		wantReadError(t, "less", b[:c.begins-1], api.ErrShort)
	}
	for _, begins := range []uint32{1 << 21, 1 << 22, 0x7ffffe00, 0x80000000, 0xfffffe00, 0x80000200} {
		wantReadError(t, "a dictionary far away", upTo(1<<21, head(0xf0, 13, begins, 1, 1)), api.ErrShort)
	}
	wantReadError(t, "many blocks", upTo(1<<21, head(0xf0, 13, 512, 65535, 1)), api.ErrShort)
	wantReadError(t, "many blocks", upTo(1<<21, head(0xf0, 13, 512, 4096, 1)), api.ErrShort)
}

func TestReadBig(t *testing.T) {
	b := upTo(2*api.MostLib, mustWrite(t, sample(), 16))
	x := mustRead(t, b)
	wantFind(t, x, "alpha", 1)
	wantReadError(t, "a byte more", append(b, 0), api.ErrBig)
	wantReadError(t, "noughts", noughts(2*api.MostLib+1), api.ErrBig)
	wantReadError(t, "noughts", noughts(2*api.MostLib), api.ErrForm)
	wantReadError(t, "much more", noughts(1<<24), api.ErrBig)
	wantReadError(t, "a dictionary of which bytes are missing", upTo(2*api.MostLib+1, head(0xf0, 13, 1<<22, 1, 1)), api.ErrBig)
	mustRead(t, upTo(2*api.MostLib, head(0xf0, 13, 512, 4095, 1)))
	mustRead(t, upTo(2*api.MostLib, head(0xf0, 13, 2*api.MostLib-512, 1, 1)))
	// What is written of as many bytes as may be is read.
	mustRead(t, mustWrite(t, []api.Module{sized(t, api.MostLib)}, 32))
	mustRead(t, mustWrite(t, make([]api.Module, 32), 32768))
}

func TestReadForm(t *testing.T) {
	whole := func(h []byte) []byte { return upTo(70000, h) }
	mustRead(t, whole(head(0xf0, 13, 512, 1, 1)))
	for kind := range 256 {
		if kind != 0xf0 {
			wantReadError(t, "another first byte", whole(head(byte(kind), 13, 512, 1, 1)), api.ErrForm)
		}
	}
	for last := range 256 {
		if last != 1 {
			wantReadError(t, "another last byte", whole(head(0xf0, 13, 512, 1, byte(last))), api.ErrForm)
		}
	}
	good := 0
	b := whole(head(0xf0, 13, 32768, 1, 1))
	for told := range 65536 {
		copy(b, head(0xf0, uint16(told), 32768, 1, 1))
		wantRead(t, "a page", b)
		if _, _, e := readModel(b); e == api.OK {
			good++
		}
	}
	if good != len(sizes) {
		t.Errorf("%d pages may be", good)
	}
	wantReadError(t, "no blocks", whole(head(0xf0, 13, 512, 0, 1)), api.ErrForm)
	for begins := range uint32(5000) {
		copy(b, head(0xf0, 13, begins, 1, 1))
		wantRead(t, "a dictionary's beginning", b)
		if begins%512 != 0 || begins == 0 {
			wantReadError(t, "a dictionary's beginning", b, api.ErrForm)
		}
	}
	for _, begins := range []uint32{0xffffffff, 0xfffffe01, 0x80000001, 1<<31 - 1, 0x01000201} {
		wantReadError(t, "a dictionary far away, at no multiple", whole(head(0xf0, 13, begins, 1, 1)), api.ErrForm)
	}
}

// TestReadFirstPage has dictionaries that begin in the first page, and behind it.
func TestReadFirstPage(t *testing.T) {
	for _, page := range sizes {
		for begins := 0; begins < 2*page+1024; begins += 512 {
			b := upTo(begins+70000, head(0xf0, uint16(page-3), uint32(begins), 1, 1))
			if begins < page {
				wantReadError(t, fmt.Sprintf("pages of %d, %d", page, begins), b, api.ErrForm)
			} else if x := mustRead(t, b); x.Page() != page || x.Blocks() != 1 {
				t.Errorf("Page %d, Blocks %d", x.Page(), x.Blocks())
			}
		}
	}
}

// TestReadWhichError has more than one that is wrong.
func TestReadWhichError(t *testing.T) {
	for _, h := range [][]byte{head(0xf1, 13, 512, 1, 1), head(0xf0, 14, 512, 1, 1), head(0xf0, 13, 513, 1, 1), head(0xf0, 13, 512, 0, 1), head(0xf0, 1021, 512, 1, 1), head(0xf0, 13, 512, 1, 0)} {
		wantReadError(t, "not so, and bytes are missing", h, api.ErrForm)
		wantReadError(t, "not so, and there are few", h[:9], api.ErrShort)
		wantReadError(t, "not so, and there are many", upTo(2*api.MostLib+1, h), api.ErrBig)
		wantReadError(t, "not so", upTo(2*api.MostLib, h), api.ErrForm)
	}
}

// TestReadOneByteBent bends each byte of a library, one after the other.
func TestReadOneByteBent(t *testing.T) {
	names := drawnNames(60)
	b := mustWrite(t, giveAll(names, 20), 32)
	asked := append(drawnNames(90)[60:], names[:20]...)
	for at := range b {
		for _, by := range []byte{1, 2, 0x10, 0x80, 0xff} {
			b[at] ^= by
			wantRead(t, fmt.Sprintf("byte %d bent by %x", at, by), b)
			if x, e := Read(b); e == api.OK {
				d := b[len(b)-512*x.Blocks():]
				if at < 10 {
					d = dictionaryOf(b)
				}
				for _, name := range asked[at%4*7:][:7] {
					wantFind(t, x, name, findModel(d, name))
				}
				x.Module(at / 32)
			}
			b[at] ^= by
		}
	}
}

// dictionaryOf is a library's dictionary, wherever it begins.
func dictionaryOf(b []byte) []byte {
	begins := int(b[3]) + 256*int(b[4]) + 65536*int(b[5])
	return b[begins:][:512*(int(b[7])+256*int(b[8]))]
}

// TestReadDrawn has headers that are nearly right, and all else by chance.
func TestReadDrawn(t *testing.T) {
	d := drawer(280)
	for range 3000 {
		b := []byte(d.text(4096))
		h := head(0xf0, uint16(sizes[d.below(7)]-3), uint32(512*d.below(8)), uint16(d.below(8)), 1)
		copy(b, h)
		if d.below(4) == 0 {
			b[d.below(10)] = d.byte()
		}
		b = b[:d.below(4097)]
		wantRead(t, "drawn", b)
		x, e := Read(b)
		if e != api.OK {
			continue
		}
		for range 10 {
			name := d.text(d.below(4))
			wantFind(t, x, name, findModel(dictionaryOf(b), name))
		}
		x.Module(d.below(300))
	}
}

func TestOfNone(t *testing.T) {
	var none *Library
	for _, x := range []*Library{none, {}, new(Library)} {
		if x.Page() != 0 || x.Blocks() != 0 {
			t.Errorf("Page %d, Blocks %d", x.Page(), x.Blocks())
		}
		for _, name := range []string{"", "X", drawnNames(1)[0], string(noughts(300))} {
			wantFind(t, x, name, 0)
		}
		for _, page := range []int{0, 1, 2, -1, math.MinInt, math.MaxInt} {
			wantNoModule(t, x, page, api.ErrNone)
		}
	}
}
