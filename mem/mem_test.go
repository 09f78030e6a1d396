package mem

import (
	"bytes"
	"math"
	"math/rand"
	"testing"

	"hansom/api"
)

const size = api.MemoryBytes

// number and para are a plain word and a paragraph's one.
func number(v uint16) api.Val { return api.Val{V: v} }

func para(v uint16) api.Val { return api.Val{V: v, T: true} }

func wantByte(t *testing.T, m *Memory, at uint32, b byte, plain bool) {
	t.Helper()
	if m.At(at) != b || m.Plain(at) != plain {
		t.Errorf("at %#x: %#x, plain %v, want %#x, %v", at, m.At(at), m.Plain(at), b, plain)
	}
}

func wantWord(t *testing.T, m *Memory, seg, off uint16, v api.Val, ok bool) {
	t.Helper()
	if got, is := m.Word(seg, off); got != v || is != ok {
		t.Errorf("word at %04x:%04x: %#v, %v, want %#v, %v", seg, off, got, is, v, ok)
	}
}

func TestNewIsPlainNoughts(t *testing.T) {
	m := New()
	for at := range uint32(size) {
		if m.At(at) != 0 || !m.Plain(at) {
			t.Fatalf("at %#x: %#x, plain %v", at, m.At(at), m.Plain(at))
		}
	}
	wantWord(t, m, 0x1234, 5, number(0), true)
	if !bytes.Equal(m.Bytes(0, size), make([]byte, size)) {
		t.Error("the bytes are not all noughts")
	}
}

func TestMemoriesAreApart(t *testing.T) {
	a, b := New(), New()
	a.SetWord(2, 3, para(0x1234))
	wantByte(t, b, 35, 0, true)
	wantByte(t, b, 36, 0, true)
}

func TestSetTouchesOnePlace(t *testing.T) {
	m := New()
	m.Set(0x12345, 0xab)
	wantByte(t, m, 0x12344, 0, true)
	wantByte(t, m, 0x12345, 0xab, true)
	wantByte(t, m, 0x12346, 0, true)
}

func TestPlacesComeRound(t *testing.T) {
	for _, c := range []struct{ at, same uint32 }{
		{0, 0}, {size - 1, size - 1}, {size, 0}, {size + 1, 1}, {2*size - 1, size - 1},
		{2 * size, 0}, {0x7ff12345, 0x12345}, {math.MaxUint32, size - 1}, {math.MaxUint32 - size, size - 1}, {math.MaxUint32 - size + 1, 0},
	} {
		m := New()
		m.Set(c.at, 0x5a)
		wantByte(t, m, c.at, 0x5a, true)
		wantByte(t, m, c.same, 0x5a, true)
		if n := bytes.Count(m.Bytes(0, size), []byte{0x5a}); n != 1 {
			t.Errorf("Set(%#x) set %d bytes", c.at, n)
		}
		seg, off := uint16(c.same>>4), uint16(c.same&15)
		m.SetWord(seg, off, para(0x1234))
		wantByte(t, m, c.at, 0x34, false)
		m.Set(c.at, 1)
		wantByte(t, m, c.same, 1, true)
	}
}

func TestByteOfASegment(t *testing.T) {
	for _, c := range []struct {
		seg, off uint16
		at       uint32
	}{
		{0, 0, 0}, {0, 0xffff, 0xffff}, {0x1234, 5, 0x12345}, {0x1234, 0xabcd, 0x1cf0d},
		{0xffff, 0xf, size - 1}, {0xffff, 0x10, 0}, {0xffff, 0xffff, 0xffef}, {0xf000, 0xffff, size - 1},
	} {
		m := New()
		m.SetByte(c.seg, c.off, 0x77)
		wantByte(t, m, c.at, 0x77, true)
		if b, plain := m.Byte(c.seg, c.off); b != 0x77 || !plain {
			t.Errorf("byte at %04x:%04x: %#x, plain %v", c.seg, c.off, b, plain)
		}
		m.SetWord(c.seg, c.off, para(0x1122))
		if b, plain := m.Byte(c.seg, c.off); b != 0x22 || plain {
			t.Errorf("lower byte at %04x:%04x: %#x, plain %v", c.seg, c.off, b, plain)
		}
		if b, plain := m.Byte(c.seg, c.off+1); b != 0x11 || plain {
			t.Errorf("upper byte at %04x:%04x: %#x, plain %v", c.seg, c.off+1, b, plain)
		}
		m.SetByte(c.seg, c.off, 0x33)
		if b, plain := m.Byte(c.seg, c.off); b != 0x33 || !plain {
			t.Errorf("byte set anew at %04x:%04x: %#x, plain %v", c.seg, c.off, b, plain)
		}
	}
}

func TestWords(t *testing.T) {
	for _, v := range []api.Val{number(0), number(0x1234), number(0xffff), para(0), para(0x1234), para(0xffff)} {
		m := New()
		m.SetWord(2, 3, v)
		wantWord(t, m, 2, 3, v, true)
		wantWord(t, m, 0, 35, v, true)
		wantByte(t, m, 34, 0, true)
		wantByte(t, m, 35, byte(v.V), !v.T)
		wantByte(t, m, 36, byte(v.V>>8), !v.T)
		wantByte(t, m, 37, 0, true)
	}
}

func TestTwoPlainBytesAreAWord(t *testing.T) {
	m := New()
	m.SetByte(7, 0, 0x34)
	m.SetByte(7, 1, 0x12)
	wantWord(t, m, 7, 0, number(0x1234), true)
}

func TestWordComesRoundInItsSegment(t *testing.T) {
	for _, v := range []api.Val{number(0x1234), para(0x1234)} {
		m := New()
		m.SetWord(0x100, 0xffff, v)
		wantWord(t, m, 0x100, 0xffff, v, true)
		wantByte(t, m, 0x10fff, 0x34, !v.T)
		wantByte(t, m, 0x1000, 0x12, !v.T)
		wantByte(t, m, 0x11000, 0, true)
		// From another segment the byte behind is the next place, a plain nought.
		wantWord(t, m, 0x10ff, 0xf, number(0x0034), !v.T)
	}
}

func TestWordComesRoundInTheMemory(t *testing.T) {
	m := New()
	m.SetWord(0xffff, 0xf, para(0x1234))
	wantWord(t, m, 0xffff, 0xf, para(0x1234), true)
	wantByte(t, m, size-1, 0x34, false)
	wantByte(t, m, 0, 0x12, false)
}

func TestHalfOfAParagraphsWord(t *testing.T) {
	m := New()
	m.SetWord(5, 4, para(0x1234))
	wantWord(t, m, 5, 3, number(0x3400), false)
	wantWord(t, m, 5, 5, number(0x0012), false)
}

func TestOneByteWrittenAnew(t *testing.T) {
	write := map[string]func(m *Memory, off uint16, b byte){
		"Set":     func(m *Memory, off uint16, b byte) { m.Set(0x50+uint32(off), b) },
		"SetByte": func(m *Memory, off uint16, b byte) { m.SetByte(5, off, b) },
		"Load":    func(m *Memory, off uint16, b byte) { m.Load(0x50+uint32(off), []byte{b}) },
	}
	for name, w := range write {
		t.Run(name, func(t *testing.T) {
			m := New()
			m.SetWord(5, 4, para(0x1234))
			w(m, 4, 0x34)
			wantByte(t, m, 0x54, 0x34, true)
			wantByte(t, m, 0x55, 0x12, false)
			wantWord(t, m, 5, 4, number(0x1234), false)
			w(m, 5, 0x99)
			wantWord(t, m, 5, 4, number(0x9934), true)
			m.SetWord(5, 4, para(0x1234))
			w(m, 5, 0x99)
			wantByte(t, m, 0x54, 0x34, false)
			wantByte(t, m, 0x55, 0x99, true)
			wantWord(t, m, 5, 4, number(0x9934), false)
		})
	}
}

func TestPlainWordOverHalfOfAParagraphs(t *testing.T) {
	m := New()
	m.SetWord(5, 4, para(0x1234))
	m.SetWord(5, 5, number(0xabcd))
	wantWord(t, m, 5, 4, number(0xcd34), false)
	wantWord(t, m, 5, 5, number(0xabcd), true)
	m.SetWord(5, 4, number(0x5678))
	wantWord(t, m, 5, 4, number(0x5678), true)
	wantWord(t, m, 5, 5, number(0xab56), true)
}

func TestLowerHalfThenUpperHalfIsAParagraphsWord(t *testing.T) {
	m := New()
	// Both words' lower bytes share the last place of segment 0; their upper ones stand at 0 and behind it.
	m.SetWord(0xfff, 0xf, para(0xaabb))
	m.SetWord(0, 0xffff, para(0x1122))
	wantWord(t, m, 0, 0xffff, para(0x1122), true)
	wantWord(t, m, 0xfff, 0xf, para(0xaa22), true)
}

func TestOtherHalvesAreNoWord(t *testing.T) {
	m := New()
	m.SetWord(1, 0, para(0x1122))
	m.SetWord(1, 2, para(0x3344))
	wantWord(t, m, 1, 1, number(0x4411), false) // an upper one, then a lower one
	wantWord(t, m, 1, 0, para(0x1122), true)
	wantWord(t, m, 1, 2, para(0x3344), true)
	m.SetWord(1, 1, para(0x5566))
	wantWord(t, m, 1, 0, number(0x6622), false) // two lower ones
	wantWord(t, m, 1, 1, para(0x5566), true)
	wantWord(t, m, 1, 2, number(0x3355), false) // two upper ones
}

func TestLoad(t *testing.T) {
	m := New()
	m.SetWord(1, 0, para(0x1122))
	m.SetWord(1, 2, para(0x3344))
	m.SetWord(1, 4, para(0x5566))
	b := []byte{1, 2, 3}
	m.Load(0x12, b)
	b[0] = 9
	if want := []byte{0x22, 0x11, 1, 2, 3, 0x55, 0}; !bytes.Equal(m.Bytes(0x10, 7), want) {
		t.Errorf("bytes %x, want %x", m.Bytes(0x10, 7), want)
	}
	wantWord(t, m, 1, 0, para(0x1122), true)
	wantWord(t, m, 1, 2, number(0x0201), true)
	wantWord(t, m, 1, 4, number(0x5503), false)
}

func TestLoadLeavesWhatIsHandedIn(t *testing.T) {
	m := New()
	b := []byte{1, 2, 3}
	m.Load(0, b)
	m.Set(0, 7)
	if !bytes.Equal(b, []byte{1, 2, 3}) {
		t.Errorf("what was handed in is %x", b)
	}
}

func TestLoadUpToTheEnd(t *testing.T) {
	for _, at := range []uint32{size - 2, 2*size - 2, math.MaxUint32 - 1} {
		m := New()
		m.SetWord(0, 0, para(0x1122))
		m.Load(at, []byte{1, 2, 3, 4})
		wantByte(t, m, size-3, 0, true)
		wantByte(t, m, size-2, 1, true)
		wantByte(t, m, size-1, 2, true)
		wantWord(t, m, 0, 0, para(0x1122), true)
	}
	m := New()
	m.Load(size, []byte{5, 6})
	wantWord(t, m, 0, 0, number(0x0605), true)
}

func TestLoadOfAllAndOfMore(t *testing.T) {
	b := make([]byte, size+3)
	for i := range b {
		b[i] = byte(i*7 + i>>8)
	}
	m := New()
	m.SetWord(0xffff, 0xe, para(1))
	m.Load(0, b)
	if !bytes.Equal(m.Bytes(0, size), b[:size]) {
		t.Error("the memory is not what was loaded")
	}
	wantByte(t, m, size-1, b[size-1], true)
}

func TestLoadOfNone(t *testing.T) {
	m := New()
	m.SetWord(1, 0, para(0x1122))
	m.Load(0x10, nil)
	m.Load(0x11, []byte{})
	m.Load(math.MaxUint32, nil)
	wantWord(t, m, 1, 0, para(0x1122), true)
}

func TestBytes(t *testing.T) {
	m := New()
	m.Load(0x100, []byte{1, 2, 3, 4})
	m.Load(size-2, []byte{8, 9})
	m.SetWord(0, 0, para(0x1122))
	for _, c := range []struct {
		at   uint32
		n    int
		want []byte
	}{
		{0x100, 4, []byte{1, 2, 3, 4}}, {0x101, 2, []byte{2, 3}}, {0x101, 1, []byte{2}}, {0xff, 2, []byte{0, 1}},
		{0, 3, []byte{0x22, 0x11, 0}}, {size, 2, []byte{0x22, 0x11}}, {3*size + 0x100, 2, []byte{1, 2}},
		{size - 2, 1, []byte{8}}, {size - 2, 2, []byte{8, 9}}, {size - 2, 3, []byte{8, 9}},
		{size - 2, math.MaxInt, []byte{8, 9}}, {size - 1, 1, []byte{9}}, {math.MaxUint32, 5, []byte{9}},
		{0x100, 0, nil}, {0x100, -1, nil}, {0x100, math.MinInt, nil}, {size - 1, 0, nil},
	} {
		if got := m.Bytes(c.at, c.n); !bytes.Equal(got, c.want) {
			t.Errorf("Bytes(%#x, %d) = %x, want %x", c.at, c.n, got, c.want)
		}
	}
	for _, n := range []int{size, size + 1, math.MaxInt} {
		if got := m.Bytes(0, n); len(got) != size {
			t.Errorf("Bytes(0, %d): %d bytes", n, len(got))
		}
		if got := m.Bytes(1, n); len(got) != size-1 {
			t.Errorf("Bytes(1, %d): %d bytes", n, len(got))
		}
	}
}

func TestBytesAreTheCallersOwn(t *testing.T) {
	m := New()
	m.Load(0x100, []byte{1, 2, 3, 4})
	b := m.Bytes(0x100, 3)
	b[0] = 9
	_ = append(b, 9)
	m.Set(0x101, 7)
	if want := []byte{1, 7, 3, 4}; !bytes.Equal(m.Bytes(0x100, 4), want) || b[1] != 2 {
		t.Errorf("memory %x, answer %x", m.Bytes(0x100, 4), b)
	}
}

func TestNoMemory(t *testing.T) {
	var m *Memory
	m.Set(1, 2)
	m.SetByte(1, 2, 3)
	m.SetWord(1, 2, para(3))
	m.Load(1, []byte{2})
	wantByte(t, m, 1, 0, true)
	wantByte(t, m, math.MaxUint32, 0, true)
	if b, plain := m.Byte(1, 2); b != 0 || !plain {
		t.Errorf("byte %#x, plain %v", b, plain)
	}
	wantWord(t, m, 1, 2, number(0), true)
	if b := m.Bytes(1, 5); len(b) != 0 {
		t.Errorf("bytes %x", b)
	}
}

// A model of the promise, place by place: what a byte is of is a letter.
type model struct {
	b map[uint32]byte
	k map[uint32]byte
}

func (o model) set(at uint32, b, k byte) { o.b[at%size], o.k[at%size] = b, k }

func (o model) word(seg, off uint16) (api.Val, bool) {
	at := func(off uint16) uint32 { return (uint32(seg)*16 + uint32(off)) % size }
	first, second := at(off), at(off+1)
	v := api.Val{V: uint16(o.b[first]) + 256*uint16(o.b[second])}
	pair := string([]byte{max(o.k[first], 'p'), max(o.k[second], 'p')})
	v.T = pair == "xy"
	return v, pair == "pp" || v.T
}

func TestAgainstAModel(t *testing.T) {
	m, o := New(), model{map[uint32]byte{}, map[uint32]byte{}}
	draw := rand.New(rand.NewSource(5))
	segs := []uint16{0, 1, 0xffff, 0xf000, 0x0fff}
	offs := []uint16{0, 1, 2, 0xe, 0xf, 0x10, 0x11, 0xfffe, 0xffff}
	for range 20000 {
		seg, off := segs[draw.Intn(len(segs))], offs[draw.Intn(len(offs))]
		v := api.Val{V: uint16(draw.Intn(1 << 16)), T: draw.Intn(2) == 0}
		at := uint32(seg)*16 + uint32(off)
		switch draw.Intn(4) {
		case 0:
			m.Set(at, byte(v.V))
			o.set(at, byte(v.V), 'p')
		case 1:
			m.SetByte(seg, off, byte(v.V))
			o.set(at, byte(v.V), 'p')
		default:
			low, high := byte('p'), byte('p')
			if v.T {
				low, high = 'x', 'y'
			}
			m.SetWord(seg, off, v)
			o.set(at, byte(v.V), low)
			o.set(uint32(seg)*16+uint32(off+1), byte(v.V>>8), high)
		}
		for _, s := range segs {
			for _, f := range offs {
				want, ok := o.word(s, f)
				if got, is := m.Word(s, f); got != want || is != ok {
					t.Fatalf("word at %04x:%04x: %#v, %v, want %#v, %v", s, f, got, is, want, ok)
				}
				at := (uint32(s)*16 + uint32(f)) % size
				if b, plain := m.Byte(s, f); b != o.b[at] || plain != (max(o.k[at], 'p') == 'p') {
					t.Fatalf("byte at %04x:%04x: %#x, plain %v, want %#x", s, f, b, plain, o.b[at])
				}
			}
		}
	}
}
