package names

import (
	"fmt"
	"strings"
	"testing"

	"hansom/api"
)

// headers are names of modules, and their bytes, by hand.
var headers = []struct{ name, text string }{
	{"", "00"}, {"A", "01 41"}, {"AB", "02 41 42"}, {"MAIN", "04 4d 41 49 4e"}, {"a.asm", "05 61 2e 61 73 6d"}, {" ", "01 20"},
	{"\x00", "01 00"}, {"\x00\x00", "02 00 00"}, {"\x01A", "02 01 41"}, {"\xff", "01 ff"}, {"\x80\x96\x88", "03 80 96 88"}, {"é", "02 c3 a9"}, {"A\x00B", "03 41 00 42"},
	{"0123456789", "0a 30 31 32 33 34 35 36 37 38 39"},
}

func TestHeaderByHand(t *testing.T) {
	for _, c := range headers {
		b := told(t, c.text)
		wantRecord(t, fmt.Sprintf("Header(%q)", c.name), Header(c.name), 0x80, b)
		wantName(t, b, c.name, api.OK)
	}
	most := strings.Repeat("M", 255)
	wantRecord(t, "Header of 255", Header(most), 0x80, append([]byte{0xff}, most...))
	wantRecord(t, "Header of 256", Header(most+"N"), 0x80, append([]byte{0xff}, most...))
	wantRecord(t, "Header of 254", Header(most[1:]), 0x80, append([]byte{0xfe}, most[1:]...))
}

func TestHeaderOfEveryLength(t *testing.T) {
	d := drawer(201)
	for many := range 600 {
		name := d.text(many)
		wantRecord(t, fmt.Sprint("Header of ", many), Header(name), api.RecTheadr, counted(cut(name)))
	}
	for _, many := range lengths() {
		name := d.text(many)
		wantRecord(t, fmt.Sprint("Header of ", many), Header(name), api.RecTheadr, counted(cut(name)))
	}
}

func TestNameOfHeader(t *testing.T) {
	d := drawer(202)
	for many := range 300 {
		name := d.text(many)
		wantName(t, Header(name).Body, cut(name), api.OK)
	}
	for _, many := range lengths() {
		name := d.text(many)
		wantName(t, Header(name).Body, cut(name), api.OK)
	}
	for one := range 256 {
		name := string([]byte{byte(one)})
		wantName(t, Header(name).Body, name, api.OK)
	}
}

func TestNameOfNone(t *testing.T) {
	wantName(t, nil, "", api.ErrShort)
	wantName(t, []byte{}, "", api.ErrShort)
	wantName(t, []byte{0}, "", api.OK)
}

func TestNameMissing(t *testing.T) {
	d := drawer(203)
	for many := range 256 {
		b := counted(d.text(many))
		for have := range b {
			wantName(t, b[:have], "", api.ErrShort)
		}
	}
}

func TestNameLeft(t *testing.T) {
	d := drawer(204)
	for many := range 256 {
		name := d.text(many)
		for _, left := range []int{1, 2, 3, 4, 100, 255, 256, 4000} {
			b := append(counted(name), d.text(left)...)
			wantName(t, b, "", api.ErrForm)
			wantName(t, b[:many+1], name, api.OK)
		}
		wantName(t, append(counted(name), 0), "", api.ErrForm)
		wantName(t, append(counted(name), counted(name)...), "", api.ErrForm)
	}
	wantName(t, make([]byte, 1<<20), "", api.ErrForm)
	wantName(t, []byte{0, 0}, "", api.ErrForm)
}

// TestNameByModel asks all short bytes whose letters are few: how many there are, and what the first one tells.
func TestNameByModel(t *testing.T) {
	everyShort(6, func(b []byte) {
		switch {
		case len(b) == 0 || int(b[0]) > len(b)-1:
			wantName(t, b, "", api.ErrShort)
		case int(b[0]) < len(b)-1:
			wantName(t, b, "", api.ErrForm)
		default:
			wantName(t, b, string(b[1:]), api.OK)
		}
	})
}
