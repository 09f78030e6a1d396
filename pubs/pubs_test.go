package pubs

import (
	"bytes"
	"encoding/hex"
	"math"
	"slices"
	"strings"
	"testing"

	"hansom/api"
)

// drawer draws bytes by a rule.
type drawer uint32

func (d *drawer) byte() byte {
	*d = *d*1664525 + 1013904223
	return byte(*d >> 24)
}

func (d *drawer) bytes(many int) []byte {
	b := make([]byte, many)
	for i := range b {
		b[i] = d.byte()
	}
	return b
}

// below is a number from 0 on, below most.
func (d *drawer) below(most int) int {
	return (int(d.byte())*65536 + int(d.byte())*256 + int(d.byte())) % most
}

// index is an index of one byte or of two.
func (d *drawer) index() int { return d.below(32768) >> d.below(15) }

// name is a name, most often a short one.
func (d *drawer) name() string {
	most := 9
	if d.below(10) == 0 {
		most = 256
	}
	return string(d.bytes(d.below(most)))
}

// told is bytes as they are told by hand, in hexadecimal.
func told(t *testing.T, text string) []byte {
	t.Helper()
	b, err := hex.DecodeString(strings.ReplaceAll(text, " ", ""))
	if err != nil {
		t.Fatal(err)
	}
	return b
}

// begin is what to show of bytes.
func begin(b []byte) []byte { return b[:min(len(b), 24)] }

// few is what to show of a list.
func few[T any](l []T) []T { return l[:min(len(l), 4)] }

func wantRecord(t *testing.T, what string, got api.Record, kind byte, body []byte) {
	t.Helper()
	if got.Kind != kind || !bytes.Equal(got.Body, body) {
		t.Fatalf("%s is %x, % x, of %d; want %x, % x, of %d", what, got.Kind, begin(got.Body), len(got.Body), kind, begin(body), len(body))
	}
}

func wantPublics(t *testing.T, l []api.Pub, body []byte) {
	t.Helper()
	wantRecord(t, "Publics", Publics(l), 0x90, body)
}

func wantExternals(t *testing.T, l []string, body []byte) {
	t.Helper()
	wantRecord(t, "Externals", Externals(l), 0x8c, body)
}

func wantCommunal(t *testing.T, l []api.Ext, body []byte) {
	t.Helper()
	wantRecord(t, "Communal", Communal(l), 0xb0, body)
}

// wantList holds what was read of bytes against what they tell; with an error that is nothing.
func wantList[T comparable](t *testing.T, what string, b []byte, got []T, err api.Errno, l []T, e api.Errno) {
	t.Helper()
	if !slices.Equal(got, l) || err != e {
		t.Fatalf("%s(% x, of %d) is %+v, of %d, %d; want %+v, of %d, %d", what, begin(b), len(b), few(got), len(got), err, few(l), len(l), e)
	}
	if e != api.OK && got != nil {
		t.Fatalf("%s(% x, of %d) is %d, and tells a list", what, begin(b), len(b), err)
	}
}

func wantGiven(t *testing.T, b []byte, l []api.Pub, e api.Errno) {
	t.Helper()
	got, err := Given(b)
	wantList(t, "Given", b, got, err, l, e)
}

func wantTaken(t *testing.T, b []byte, l []api.Ext, e api.Errno) {
	t.Helper()
	got, err := Taken(b)
	wantList(t, "Taken", b, got, err, l, e)
}

func wantMade(t *testing.T, b []byte, l []api.Ext, e api.Errno) {
	t.Helper()
	got, err := Made(b)
	wantList(t, "Made", b, got, err, l, e)
}

// noIndices are numbers that are no index.
var noIndices = []int{-1, -2, -127, -128, -256, -32767, -32768, -65536, math.MinInt32, math.MinInt, 32768, 32769, 33000, 65535, 65536, 65537, 1 << 20, math.MaxInt32, 1 << 32, 1<<32 + 1, math.MaxInt}

// inds are indices at their edges, and their bytes.
var inds = []struct {
	n    int
	text string
}{
	{0, "00"}, {1, "01"}, {2, "02"}, {0x41, "41"}, {126, "7e"}, {127, "7f"}, {128, "8080"}, {129, "8081"}, {255, "80ff"}, {256, "8100"}, {300, "812c"}, {0x1234, "9234"},
	{0x7f00, "ff00"}, {0x7ffe, "fffe"}, {0x7fff, "ffff"},
}

// indexed is an index' bytes, reckoned here.
func indexed(n int) []byte {
	if n < 128 {
		return []byte{byte(n)}
	}
	return []byte{byte(n/256 + 128), byte(n % 256)}
}

// anyIndices are indices as they may be read: of one byte, of two, and of two where one would do.
func anyIndices() [][]byte {
	var all [][]byte
	for n := range 128 {
		all = append(all, []byte{byte(n)})
	}
	for n := range 32768 {
		all = append(all, []byte{byte(n/256 + 128), byte(n % 256)})
	}
	return all
}

// counted is the bytes of a name, 255 of them at most, reckoned here.
func counted(s string) []byte {
	if len(s) > 255 {
		s = s[:255]
	}
	return append([]byte{byte(len(s))}, s...)
}

// lowFirst is so many bytes of a number, the lowest one first, reckoned here.
func lowFirst(n, many int) []byte {
	b := make([]byte, many)
	for i := range b {
		b[i] = byte(n % 256)
		n /= 256
	}
	return b
}

// long is a length's bytes, reckoned here.
func long(n int) []byte {
	switch {
	case n < 129:
		return []byte{byte(n)}
	case n < 65536:
		return append([]byte{0x81}, lowFirst(n, 2)...)
	case n < 16777216:
		return append([]byte{0x84}, lowFirst(n, 3)...)
	}
	return append([]byte{0x88}, lowFirst(n, 4)...)
}

// cursor goes through bytes by their number, for the models; it holds nothing of what the package stands on.
type cursor struct {
	b  []byte
	at int
	e  api.Errno
}

// over tells that nothing more is to be read.
func (c *cursor) over() bool { return c.e != api.OK || c.at >= len(c.b) }

func (c *cursor) fault(e api.Errno) {
	if c.e == api.OK {
		c.e = e
	}
}

func (c *cursor) num(many int) int {
	if c.e != api.OK || c.at+many > len(c.b) {
		c.fault(api.ErrShort)
		return 0
	}
	n := 0
	for i := many - 1; i >= 0; i-- {
		n = n*256 + int(c.b[c.at+i])
	}
	c.at += many
	return n
}

func (c *cursor) index() int {
	n := c.num(1)
	if n > 127 {
		n = (n - 128) * 256
		n += c.num(1)
	}
	return n
}

func (c *cursor) text() string {
	many := c.num(1)
	if c.e != api.OK || c.at+many > len(c.b) {
		c.fault(api.ErrShort)
		return ""
	}
	c.at += many
	return string(c.b[c.at-many : c.at])
}

func (c *cursor) length() int {
	switch n := c.num(1); n {
	case 0x81:
		return c.num(2)
	case 0x84:
		return c.num(3)
	case 0x88:
		return c.num(4)
	default:
		if n > 128 {
			c.fault(api.ErrForm)
			return 0
		}
		return n
	}
}
