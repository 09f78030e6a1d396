package names

import (
	"bytes"
	"encoding/hex"
	"slices"
	"strings"
	"testing"

	"hansom/api"
)

// drawer draws bytes by a rule.
type drawer uint32

func (d *drawer) byte() byte {
	*d = *d*1664525 + 1013904223
	return byte(*d >> 24)
}

func (d *drawer) text(many int) string {
	b := make([]byte, many)
	for i := range b {
		b[i] = d.byte()
	}
	return string(b)
}

// told is bytes as they are told by hand, in hexadecimal.
func told(t *testing.T, text string) []byte {
	t.Helper()
	b, err := hex.DecodeString(strings.ReplaceAll(text, " ", ""))
	if err != nil {
		t.Fatal(err)
	}
	return b
}

// begin is what to show of bytes.
func begin(b []byte) []byte { return b[:min(len(b), 12)] }

func wantRecord(t *testing.T, what string, got api.Record, kind byte, body []byte) {
	t.Helper()
	if got.Kind != kind || !bytes.Equal(got.Body, body) {
		t.Fatalf("%s is %x of %d bytes, % x; want %x of %d bytes, % x", what, got.Kind, len(got.Body), begin(got.Body), kind, len(body), begin(body))
	}
}

func wantName(t *testing.T, b []byte, name string, e api.Errno) {
	t.Helper()
	if s, err := Name(b); s != name || err != e {
		t.Fatalf("Name(% x, of %d) is %.20q of %d, %d; want %.20q of %d, %d", begin(b), len(b), s, len(s), err, name, len(name), e)
	}
}

func wantNames(t *testing.T, b []byte, l []string, e api.Errno) {
	t.Helper()
	if got, err := Names(b); !slices.Equal(got, l) || err != e {
		t.Fatalf("Names(% x, of %d) is %.80q of %d, %d; want %.80q of %d, %d", begin(b), len(b), got, len(got), err, l, len(l), e)
	}
}

func wantComment(t *testing.T, b []byte, c api.Comment, e api.Errno) {
	t.Helper()
	if got, err := Comment(b); got != c || err != e {
		t.Fatalf("Comment(% x, of %d) is %x %x %.20q of %d, %d; want %x %x %.20q of %d, %d", begin(b), len(b),
			got.Flags, got.Class, got.Text, len(got.Text), err, c.Flags, c.Class, c.Text, len(c.Text), e)
	}
}

// cut is what stands of a text in a name: 255 of its bytes.
func cut(s string) string {
	if len(s) > 255 {
		return s[:255]
	}
	return s
}

// counted is the bytes of a name that is short enough, reckoned here.
func counted(s string) []byte { return append([]byte{byte(len(s))}, s...) }

// lengths are those of names and texts: around what a name has at most, a byte, a record's body, a word, and beyond.
func lengths() []int {
	return []int{0, 1, 2, 3, 7, 8, 31, 32, 126, 127, 128, 129, 200, 253, 254, 255, 256, 257, 258, 300, 509, 510, 511, 512, 513, 1000,
		3997, 3998, 3999, 4000, 4001, 4096, 65534, 65535, 65536, 65537, 100000, 1 << 20}
}

func TestKinds(t *testing.T) {
	for _, c := range []struct {
		what string
		r    api.Record
		kind byte
	}{
		{"Header", Header("AB"), 0x80}, {"Header of none", Header(""), api.RecTheadr},
		{"List", List([]string{"AB"}), 0x96}, {"List of none", List(nil), api.RecLnames},
		{"Remark", Remark(api.Comment{Flags: 1, Class: 2, Text: "AB"}), 0x88}, {"Remark of none", Remark(api.Comment{}), api.RecComent},
	} {
		if c.r.Kind != c.kind {
			t.Errorf("%s is of kind %x; want %x", c.what, c.r.Kind, c.kind)
		}
	}
}
