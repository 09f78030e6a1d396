package index

import (
	"bytes"
	"encoding/hex"
	"math"
	"slices"
	"strings"
	"testing"

	"hansom/api"
)

// drawer draws bytes by a rule.
type drawer uint32

func (d *drawer) byte() byte {
	*d = *d*1664525 + 1013904223
	return byte(*d >> 24)
}

func (d *drawer) bytes(many int) []byte {
	b := make([]byte, many)
	for i := range b {
		b[i] = d.byte()
	}
	return b
}

func (d *drawer) number() uint32 {
	var n uint32
	for range 4 {
		n = n*256 + uint32(d.byte())
	}
	return n
}

// told is bytes as they are told by hand, in hexadecimal.
func told(t *testing.T, text string) []byte {
	t.Helper()
	b, err := hex.DecodeString(strings.ReplaceAll(text, " ", ""))
	if err != nil {
		t.Fatal(err)
	}
	return b
}

func wantBytes(t *testing.T, what string, of any, got, want []byte) {
	t.Helper()
	if !bytes.Equal(got, want) {
		t.Fatalf("%s(%v) is % x; want % x", what, of, begin(got), begin(want))
	}
}

// begin is what to show of bytes.
func begin(b []byte) []byte { return b[:min(len(b), 12)] }

// hand is a number, and its bytes.
type hand struct {
	n    uint32
	text string
}

var indices = []hand{
	{0, "00"}, {1, "01"}, {2, "02"}, {0x41, "41"}, {126, "7e"}, {127, "7f"},
	{128, "8080"}, {129, "8081"}, {200, "80c8"}, {254, "80fe"}, {255, "80ff"},
	{256, "8100"}, {257, "8101"}, {300, "812c"}, {383, "817f"}, {384, "8180"}, {511, "81ff"}, {512, "8200"},
	{0x1234, "9234"}, {0x3fff, "bfff"}, {0x4000, "c000"}, {0x7f00, "ff00"}, {0x7f7f, "ff7f"}, {0x7f80, "ff80"}, {0x7ffe, "fffe"}, {0x7fff, "ffff"},
}

var words = []hand{
	{0, "0000"}, {1, "0100"}, {127, "7f00"}, {128, "8000"}, {129, "8100"}, {255, "ff00"}, {256, "0001"}, {257, "0101"},
	{0x1234, "3412"}, {0x7fff, "ff7f"}, {0x8000, "0080"}, {0x8001, "0180"}, {0xff00, "00ff"}, {0xfffe, "feff"}, {0xffff, "ffff"},
}

var numbers = []hand{
	{0, "00000000"}, {1, "01000000"}, {255, "ff000000"}, {256, "00010000"}, {0xffff, "ffff0000"}, {0x10000, "00000100"}, {0x10001, "01000100"},
	{0xffffff, "ffffff00"}, {0x1000000, "00000001"}, {0x12345678, "78563412"}, {0x7fffffff, "ffffff7f"}, {0x80000000, "00000080"},
	{0x80000001, "01000080"}, {0xff000000, "000000ff"}, {0xfffffffe, "feffffff"}, {0xffffffff, "ffffffff"},
}

var lengths = []hand{
	{0, "00"}, {1, "01"}, {100, "64"}, {126, "7e"}, {127, "7f"}, {128, "80"},
	{129, "81 8100"}, {130, "81 8200"}, {132, "81 8400"}, {136, "81 8800"}, {255, "81 ff00"}, {256, "81 0001"}, {300, "81 2c01"}, {0x1234, "81 3412"},
	{0x7fff, "81 ff7f"}, {0x8000, "81 0080"}, {0xfffe, "81 feff"}, {0xffff, "81 ffff"},
	{0x10000, "84 000001"}, {0x10001, "84 010001"}, {0x123456, "84 563412"}, {0x7fffff, "84 ffff7f"}, {0x800000, "84 000080"}, {0xfffffe, "84 feffff"}, {0xffffff, "84 ffffff"},
	{0x1000000, "88 00000001"}, {0x1000001, "88 01000001"}, {0x12345678, "88 78563412"}, {0x7fffffff, "88 ffffff7f"}, {0x80000000, "88 00000080"}, {0xfffffffe, "88 feffffff"}, {0xffffffff, "88 ffffffff"},
}

func TestPutByHand(t *testing.T) {
	for _, h := range indices {
		wantBytes(t, "Put", h.n, Put(int(h.n)), told(t, h.text))
	}
}

func TestPutEveryIndex(t *testing.T) {
	for n := range 128 {
		wantBytes(t, "Put", n, Put(n), []byte{byte(n)})
	}
	for n := 128; n <= api.MostIndex; n++ {
		wantBytes(t, "Put", n, Put(n), []byte{byte(128 + n/256), byte(n % 256)})
	}
}

func TestPutOthersAsNought(t *testing.T) {
	others := []int{-1, -2, -127, -128, -129, -255, -256, -300, -32767, -32768, -32769, -65536, -65235, math.MinInt32, math.MinInt, math.MinInt + 300,
		api.MostIndex + 1, api.MostIndex + 2, 0x8041, 0xffff, 0x10000, 0x10001, 0x1012c, 0x20041, math.MaxInt32, 1 << 32, 1<<32 + 300, math.MaxInt}
	for _, n := range others {
		wantBytes(t, "Put", n, Put(n), []byte{0})
	}
	for n := api.MostIndex + 1; n < 1<<17; n++ {
		wantBytes(t, "Put", n, Put(n), []byte{0})
		wantBytes(t, "Put", -n, Put(-n), []byte{0})
	}
	for n := -1; n >= -api.MostIndex; n-- {
		wantBytes(t, "Put", n, Put(n), []byte{0})
	}
}

func TestNameByHand(t *testing.T) {
	for _, c := range []struct{ s, text string }{
		{"", "00"}, {"A", "0141"}, {"AB", "024142"}, {"CODE", "04434f4445"}, {"\x00", "0100"}, {"\xff\x80", "02ff80"}, {"a b", "03612062"}, {"é", "02c3a9"},
		{"\x00\x00\x00", "03000000"}, {"\x02AB", "03024142"},
	} {
		wantBytes(t, "Name", c.s, Name(c.s), told(t, c.text))
	}
}

func TestNameOfEveryLength(t *testing.T) {
	d := drawer(191)
	for many := range api.MostName + 1 {
		b := d.bytes(many)
		wantBytes(t, "Name", many, Name(string(b)), append([]byte{byte(many)}, b...))
	}
}

func TestNameCut(t *testing.T) {
	d := drawer(192)
	for _, many := range []int{256, 257, 258, 300, 510, 511, 512, 513, 1000, 65535, 65536, 65537, 1 << 20} {
		b := d.bytes(many)
		wantBytes(t, "Name", many, Name(string(b)), append([]byte{255}, b[:255]...))
	}
	// A cut asks for bytes alone, even within a letter that has several.
	letters := strings.Repeat("é", 200)
	wantBytes(t, "Name", "letters", Name(letters), append([]byte{255}, letters[:255]...))
}

func TestTwoByHand(t *testing.T) {
	for _, h := range words {
		wantBytes(t, "Two", h.n, Two(uint16(h.n)), told(t, h.text))
	}
}

func TestTwoOfEveryWord(t *testing.T) {
	for n := range 1 << 16 {
		wantBytes(t, "Two", n, Two(uint16(n)), []byte{byte(n % 256), byte(n / 256)})
	}
}

func TestFourByHand(t *testing.T) {
	for _, h := range numbers {
		wantBytes(t, "Four", h.n, Four(h.n), told(t, h.text))
	}
}

func TestFourOfEachByte(t *testing.T) {
	d := drawer(193)
	for range 5000 {
		b := d.bytes(4)
		n := uint32(b[0]) + 256*uint32(b[1]) + 65536*uint32(b[2]) + 16777216*uint32(b[3])
		wantBytes(t, "Four", n, Four(n), b)
	}
	for at := range 4 {
		for one := range 256 {
			b := make([]byte, 4)
			b[at] = byte(one)
			wantBytes(t, "Four", one, Four(uint32(one)<<(8*at)), b)
		}
	}
}

func TestLongByHand(t *testing.T) {
	for _, h := range lengths {
		wantBytes(t, "Long", h.n, Long(h.n), told(t, h.text))
	}
}

// longModel is a length's bytes, reckoned by divisions: as few as hold it.
func longModel(n uint32) []byte {
	if n <= 128 {
		return []byte{byte(n)}
	}
	var b []byte
	for rest := n; rest > 0; rest /= 256 {
		b = append(b, byte(rest%256))
	}
	if len(b) == 1 {
		b = append(b, 0)
	}
	return append([]byte{[]byte{0x81, 0x84, 0x88}[len(b)-2]}, b...)
}

func TestLongNearEachEdge(t *testing.T) {
	for n := range uint32(70000) {
		wantBytes(t, "Long", n, Long(n), longModel(n))
	}
	for _, edge := range []uint32{1 << 23, 1 << 24, 1 << 25, 1 << 31, math.MaxUint32 - 999} {
		for n := edge - 1000; n != edge+1000; n++ {
			wantBytes(t, "Long", n, Long(n), longModel(n))
		}
	}
	d := drawer(194)
	for range 20000 {
		n := d.number() >> (d.byte() % 32)
		wantBytes(t, "Long", n, Long(n), longModel(n))
	}
}

// putting is one of the calls that put something, and another number's bytes by it.
type putting struct {
	what string
	put  func(n int) []byte
}

var puttings = []putting{
	{"Put", Put},
	{"Name", func(n int) []byte { return Name(strings.Repeat("x", n)) }},
	{"Two", func(n int) []byte { return Two(uint16(n)) }},
	{"Four", func(n int) []byte { return Four(uint32(n)) }},
	{"Long", func(n int) []byte { return Long(uint32(n)) }},
}

func TestWhatIsPutIsTheCallers(t *testing.T) {
	for _, p := range puttings {
		for _, n := range []int{0, 1, 127, 128, 129, 300, 32767, 70000} {
			first := p.put(n)
			was := slices.Clone(first)
			for i := range first {
				first[i] ^= 0xff
			}
			_ = append(first, 0x77, 0x77)
			second := p.put(n)
			wantBytes(t, p.what, n, second, was)
			for i := range second {
				second[i] ^= 0x55
			}
			for i := range first {
				if first[i] != was[i]^0xff {
					t.Fatalf("%s(%d): two answers share their bytes", p.what, n)
				}
			}
		}
	}
}
