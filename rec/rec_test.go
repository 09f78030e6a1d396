package rec

import (
	"bytes"
	"encoding/hex"
	"slices"
	"strings"
	"testing"

	"hansom/api"
)

// drawer draws bytes by a rule.
type drawer uint32

func (d *drawer) byte() byte {
	*d = *d*1664525 + 1013904223
	return byte(*d >> 24)
}

func (d *drawer) bytes(many int) []byte {
	b := make([]byte, many)
	for i := range b {
		b[i] = d.byte()
	}
	return b
}

// told is bytes as they are told by hand, in hexadecimal.
func told(t *testing.T, text string) []byte {
	t.Helper()
	b, err := hex.DecodeString(strings.ReplaceAll(text, " ", ""))
	if err != nil {
		t.Fatal(err)
	}
	return b
}

// sample is a record, and its bytes.
type sample struct {
	r api.Record
	b []byte
}

// The records whose bytes are told by hand: what stands ahead of the body, the body, the check sum.
const short = `
80 0100 | | 7f
80 0300 | 0141 | 3b
88 0300 | 809e | 57
8a 0200 | 00 | 74
8c 0400 | 015800 | 17
90 0800 | 00010141000000 | 25
96 0700 | 0004434f4445 | 44
98 0700 | 281100020301 | 22
9a 0400 | 02ff01 | 60
9c 0500 | c4015402 | 44
a0 0800 | 010000b80700f4 | a4
a2 0b00 | 0100000300000002aa55 | 4e
b0 0600 | 0141006202 | a4
f0 0800 | 00020000010000 | 05
f1 0300 | 0000 | 0c
00 0100 | | ff
00 0200 | fe | 00
01 0100 | | fe
7f 0200 | 7f | 00
81 0200 | 01 | 7c
ff 0100 | | 00
ff 0200 | ff | 00
ff 0300 | ffff | 00
f1 0300 | 8000 | 8c
`

// samples are the records that are told by hand, and greater ones, whose bodies are one byte, many times.
func samples(t *testing.T) []sample {
	var l []sample
	for _, row := range strings.Split(strings.TrimSpace(short), "\n") {
		parts := strings.Split(row, "|")
		ahead, body, sum := told(t, parts[0]), told(t, parts[1]), told(t, parts[2])
		l = append(l, sample{api.Record{Kind: ahead[0], Body: body}, slices.Concat(ahead, body, sum)})
	}
	for _, great := range []struct {
		ahead string
		one   byte
		many  int
		sum   byte
	}{
		{"80 ff00", 0, 254, 0x81},
		{"80 0001", 0, 255, 0x7f},
		{"8c 0101", 2, 256, 0x72},
		{"96 0201", 0xff, 257, 0x68},
		{"a2 9f0f", 0xff, api.MostBody - 2, 0x4e},
		{"a2 a00f", 0xff, api.MostBody - 1, 0x4e},
		{"a0 a10f", 1, api.MostBody, 0x10},
		{"50 a10f", 0, api.MostBody, 0x00},
	} {
		ahead, body := told(t, great.ahead), bytes.Repeat([]byte{great.one}, great.many)
		l = append(l, sample{api.Record{Kind: ahead[0], Body: body}, slices.Concat(ahead, body, []byte{great.sum})})
	}
	return l
}

// tooGreat are counts of bytes that no record may have; of some the lower word, and one, is small.
var tooGreat = []int{
	api.MostBody + 1, api.MostBody + 2, api.MostBody + 96, 2 * api.MostBody,
	1<<16 - 2, 1<<16 - 1, 1 << 16, 1<<16 + 1, 1<<16 + api.MostBody, 1<<17 + 5,
}

func sameRecord(a, b api.Record) bool { return a.Kind == b.Kind && bytes.Equal(a.Body, b.Body) }

func sameRecords(a, b []api.Record) bool { return slices.EqualFunc(a, b, sameRecord) }

func TestSumByHand(t *testing.T) {
	for _, c := range []struct {
		b    []byte
		want byte
	}{
		{nil, 0}, {[]byte{}, 0}, {[]byte{0}, 0}, {[]byte{0, 0, 0}, 0},
		{[]byte{1}, 0xff}, {[]byte{0x7f}, 0x81}, {[]byte{0x80}, 0x80}, {[]byte{0xff}, 1},
		{[]byte{1, 2}, 0xfd}, {[]byte{2, 1}, 0xfd}, {[]byte{1, 2, 3, 4}, 0xf6},
		{[]byte{0x80, 0x80}, 0}, {[]byte{0xff, 1}, 0}, {[]byte{0xff, 0xff, 2}, 0}, {[]byte{0x40, 0x40, 0x80}, 0},
		{[]byte{0xff, 2}, 0xff}, {[]byte{0xff, 0xff}, 2}, {[]byte{0xf0, 0xf0, 0xf0}, 0x30},
		{bytes.Repeat([]byte{1}, 255), 1}, {bytes.Repeat([]byte{1}, 256), 0}, {bytes.Repeat([]byte{1}, 300), 0xd4},
		{bytes.Repeat([]byte{0xff}, 1000), 0xe8},
	} {
		if got := Sum(c.b); got != c.want {
			t.Errorf("Sum of %d bytes, % x, is %02x, want %02x", len(c.b), c.b[:min(len(c.b), 8)], got, c.want)
		}
	}
}

func TestSumLetsBytesComeToNone(t *testing.T) {
	for one := range 256 {
		if got := Sum([]byte{byte(one)}); (one+int(got))%256 != 0 {
			t.Errorf("Sum of %02x is %02x", one, got)
		}
	}
	d := drawer(18)
	for many := range 600 {
		b := d.bytes(many)
		all := 0
		for _, one := range b {
			all += int(one)
		}
		got := Sum(b)
		if (all+int(got))%256 != 0 {
			t.Fatalf("Sum of % x is %02x", b, got)
		}
		if Sum(append(b, got)) != 0 {
			t.Fatalf("% x and their sum do not come to 0", b)
		}
	}
}

func TestPutByHand(t *testing.T) {
	for _, s := range samples(t) {
		if got := Put(s.r); !bytes.Equal(got, s.b) {
			t.Errorf("Put of kind %02x, %d bytes: %d bytes % x.., want %d % x..",
				s.r.Kind, len(s.r.Body), len(got), got[:min(len(got), 16)], len(s.b), s.b[:min(len(s.b), 16)])
		}
	}
}

func TestPutKindsAreTheChapters(t *testing.T) {
	kinds := []int{
		api.RecTheadr, api.RecComent, api.RecModend, api.RecExtdef, api.RecPubdef, api.RecLnames, api.RecSegdef,
		api.RecGrpdef, api.RecFixupp, api.RecLedata, api.RecLidata, api.RecComdef, api.RecLibhdr, api.RecLibend,
	}
	for i, want := range told(t, "80 88 8a 8c 90 96 98 9a 9c a0 a2 b0 f0 f1") {
		if got := Put(api.Record{Kind: byte(kinds[i])}); len(got) != 4 || got[0] != want {
			t.Errorf("kind %02x is put as % x", kinds[i], got)
		}
	}
}

func TestPutEveryKindAndLength(t *testing.T) {
	d := drawer(181)
	for kind := range 256 {
		for _, many := range []int{0, 1, 2, 7, 253, 254, 255, 256, 257, 511, 1023, api.MostBody - 1, api.MostBody} {
			r := api.Record{Kind: byte(kind), Body: d.bytes(many)}
			got := Put(r)
			if len(got) != many+4 || got[0] != r.Kind || int(got[1])+256*int(got[2]) != many+1 {
				t.Fatalf("Put of kind %02x, %d bytes: %d bytes, % x..", kind, many, len(got), got[:min(len(got), 4)])
			}
			if !bytes.Equal(got[3:many+3], r.Body) {
				t.Fatalf("Put of kind %02x, %d bytes: they are others", kind, many)
			}
			all := 0
			for _, one := range got {
				all += int(one)
			}
			if all%256 != 0 {
				t.Fatalf("Put of kind %02x, %d bytes: they come to %d", kind, many, all)
			}
		}
	}
}

func TestPutTooGreat(t *testing.T) {
	for _, many := range tooGreat {
		for _, kind := range []byte{0, api.RecTheadr, api.RecLedata, api.RecLibend, 0xff} {
			if got := Put(api.Record{Kind: kind, Body: make([]byte, many)}); len(got) != 0 {
				t.Errorf("Put of kind %02x, %d bytes: %d bytes", kind, many, len(got))
			}
		}
	}
}

// roomy is bytes with room behind them, that has marks in it.
func roomy(b []byte) (part, whole []byte) {
	whole = append(append([]byte{0xa5}, b...), bytes.Repeat([]byte{0x5a}, 16)...)
	return whole[1 : len(b)+1], whole
}

func TestSumAndPutChangeNothing(t *testing.T) {
	for _, s := range samples(t) {
		body, whole := roomy(s.r.Body)
		was := slices.Clone(whole)
		Sum(body)
		got := Put(api.Record{Kind: s.r.Kind, Body: body})
		if !bytes.Equal(whole, was) {
			t.Fatalf("kind %02x: Put changed what was handed in", s.r.Kind)
		}
		for i := range whole {
			whole[i] ^= 0xff
		}
		if !bytes.Equal(got, s.b) {
			t.Fatalf("kind %02x: what Put answered is changed with what was handed in", s.r.Kind)
		}
		was = slices.Clone(whole)
		for i := range got {
			got[i] ^= 0x33
		}
		if !bytes.Equal(whole, was) {
			t.Fatalf("kind %02x: what Put answered is no memory of its own", s.r.Kind)
		}
	}
}
