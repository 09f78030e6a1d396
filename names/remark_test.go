package names

import (
	"fmt"
	"strings"
	"testing"

	"hansom/api"
)

// remarks are remarks, and their bytes, by hand.
var remarks = []struct {
	c    api.Comment
	text string
}{
	{api.Comment{}, "00 00"},
	{api.Comment{Flags: 0x80}, "80 00"}, {api.Comment{Class: 0x9e}, "00 9e"}, {api.Comment{Flags: 0x80, Class: 0x9e}, "80 9e"}, {api.Comment{Flags: 0xff, Class: 0xff}, "ff ff"},
	{api.Comment{Flags: 1, Class: 2}, "01 02"}, {api.Comment{Flags: 2, Class: 1}, "02 01"},
	{api.Comment{Text: "A"}, "00 00 41"}, {api.Comment{Flags: 0xc0, Class: 0x9f, Text: "SLIB"}, "c0 9f 53 4c 49 42"}, {api.Comment{Text: "\x00"}, "00 00 00"},
	{api.Comment{Flags: 0x40, Class: 0xa1, Text: "\x01CV"}, "40 a1 01 43 56"}, {api.Comment{Text: "\xff\x00\xff"}, "00 00 ff 00 ff"}, {api.Comment{Class: 1, Text: "é b"}, "00 01 c3 a9 20 62"},
}

func wantRemark(t *testing.T, c api.Comment) {
	t.Helper()
	b := append([]byte{c.Flags, c.Class}, c.Text...)
	r := Remark(c)
	wantRecord(t, fmt.Sprintf("Remark of %x %x and %d bytes", c.Flags, c.Class, len(c.Text)), r, api.RecComent, b)
	wantComment(t, r.Body, c, api.OK)
}

func TestRemarkByHand(t *testing.T) {
	for _, c := range remarks {
		b := told(t, c.text)
		wantRecord(t, fmt.Sprintf("Remark(%v)", c.c), Remark(c.c), 0x88, b)
		wantComment(t, b, c.c, api.OK)
	}
	most := strings.Repeat("M", 256)
	wantRecord(t, "Remark of 256", Remark(api.Comment{Flags: 1, Class: 2, Text: most}), 0x88, append([]byte{1, 2}, most...))
}

func TestRemarkOfEveryTwo(t *testing.T) {
	many := strings.Repeat("REMARK ", 50)
	for flags := range 256 {
		for class := range 256 {
			for _, text := range []string{"", "A", many} {
				wantRemark(t, api.Comment{Flags: byte(flags), Class: byte(class), Text: text})
			}
		}
	}
}

// TestRemarkOfEveryLength has texts of more bytes than a name may have: they are told whole.
func TestRemarkOfEveryLength(t *testing.T) {
	d := drawer(221)
	for many := range 600 {
		wantRemark(t, api.Comment{Flags: d.byte(), Class: d.byte(), Text: d.text(many)})
	}
	for _, many := range lengths() {
		wantRemark(t, api.Comment{Flags: d.byte(), Class: d.byte(), Text: d.text(many)})
		wantRemark(t, api.Comment{Flags: 0xff, Class: 0, Text: strings.Repeat("\x00", many)})
	}
}

func TestCommentMissing(t *testing.T) {
	wantComment(t, nil, api.Comment{}, api.ErrShort)
	wantComment(t, []byte{}, api.Comment{}, api.ErrShort)
	for one := range 256 {
		wantComment(t, []byte{byte(one)}, api.Comment{}, api.ErrShort)
	}
	for _, c := range remarks {
		b := told(t, c.text)
		for have := range b {
			if have < 2 {
				wantComment(t, b[:have], api.Comment{}, api.ErrShort)
				continue
			}
			wantComment(t, b[:have], api.Comment{Flags: b[0], Class: b[1], Text: string(b[2:have])}, api.OK)
		}
	}
}

func TestCommentOfEveryTwo(t *testing.T) {
	for flags := range 256 {
		for class := range 256 {
			wantComment(t, []byte{byte(flags), byte(class)}, api.Comment{Flags: byte(flags), Class: byte(class)}, api.OK)
		}
	}
}
