package names

import (
	"bytes"
	"slices"
	"testing"

	"hansom/api"
)

// spoil is what a caller does to bytes, behind their end too.
func spoil(b []byte) {
	b = b[:cap(b)]
	for i := range b {
		b[i] ^= 0xff
	}
}

// roomy is bytes with more of them behind their end, that are none of theirs.
func roomy(b []byte) []byte {
	more := append(slices.Clone(b), "behind"...)
	return more[:len(b)]
}

func TestBytesAreNotChanged(t *testing.T) {
	for _, b := range [][]byte{{2, 'A', 'B'}, {2, 'A', 'B', 1, 'C'}, {0}, {0, 0}, {1}, {3, 'A'}, {0x80, 0x9e, 'A', 'B'}, {}} {
		given := roomy(b)
		whole := slices.Clone(given[:cap(given)])
		Name(given)
		Names(given)
		Comment(given)
		if !bytes.Equal(given, b) || !bytes.Equal(given[:cap(given)], whole) {
			t.Errorf("% x is % x now", b, given)
		}
	}
}

// TestNothingBehindCounts has bytes with room behind them: what stands there is none of theirs.
func TestNothingBehindCounts(t *testing.T) {
	wantName(t, roomy([]byte{2, 'A'}), "", api.ErrShort)
	wantName(t, roomy([]byte{1, 'A'}), "A", api.OK)
	wantNames(t, roomy([]byte{1, 'A', 3}), nil, api.ErrShort)
	wantNames(t, roomy([]byte{1, 'A', 0}), []string{"A", ""}, api.OK)
	wantComment(t, roomy([]byte{1}), api.Comment{}, api.ErrShort)
	wantComment(t, roomy([]byte{1, 2, 'A'}), api.Comment{Flags: 1, Class: 2, Text: "A"}, api.OK)
}

func TestWhatIsReadStays(t *testing.T) {
	b := []byte{2, 'A', 'B'}
	name, _ := Name(b)
	spoil(b)
	if name != "AB" {
		t.Errorf("the name is %q now", name)
	}
	b = []byte{2, 'A', 'B', 0, 3, 'C', 'D', 'E'}
	l, _ := Names(b)
	spoil(b)
	if !slices.Equal(l, []string{"AB", "", "CDE"}) {
		t.Errorf("the names are %q now", l)
	}
	b = []byte{1, 2, 'A', 'B'}
	c, _ := Comment(b)
	spoil(b)
	if c != (api.Comment{Flags: 1, Class: 2, Text: "AB"}) {
		t.Errorf("the remark is %v now", c)
	}
}

func TestNamesAreTheCallers(t *testing.T) {
	b := []byte{1, 'A', 1, 'B'}
	first, _ := Names(b)
	first[0], first[1] = "X", "Y"
	_ = append(first[:0], "V", "W")
	wantNames(t, b, []string{"A", "B"}, api.OK)
}

func TestListIsNotKept(t *testing.T) {
	room := []string{"A", "BC", "behind"}
	l := room[:2]
	r := List(l)
	if !slices.Equal(room, []string{"A", "BC", "behind"}) {
		t.Fatalf("the names are %q now", room)
	}
	l[0], l[1] = "XX", ""
	wantRecord(t, "List, when the names are others", r, api.RecLnames, []byte{1, 'A', 2, 'B', 'C'})
}

func TestRecordsAreTheCallers(t *testing.T) {
	c := api.Comment{Flags: 1, Class: 2, Text: "AB"}
	l := []string{"", "AB"}
	for _, one := range []struct {
		what string
		make func() api.Record
		kind byte
		body []byte
	}{
		{"Header", func() api.Record { return Header("AB") }, api.RecTheadr, []byte{2, 'A', 'B'}},
		{"Header of none", func() api.Record { return Header("") }, api.RecTheadr, []byte{0}},
		{"List", func() api.Record { return List(l) }, api.RecLnames, []byte{0, 2, 'A', 'B'}},
		{"List of none", func() api.Record { return List(nil) }, api.RecLnames, nil},
		{"Remark", func() api.Record { return Remark(c) }, api.RecComent, []byte{1, 2, 'A', 'B'}},
		{"Remark of none", func() api.Record { return Remark(api.Comment{}) }, api.RecComent, []byte{0, 0}},
	} {
		first := one.make()
		second := one.make()
		spoil(first.Body)
		wantRecord(t, one.what+", when another is spoiled", second, one.kind, one.body)
		wantRecord(t, one.what+", once more", one.make(), one.kind, one.body)
	}
	if c.Text != "AB" || !slices.Equal(l, []string{"", "AB"}) {
		t.Error("what was handed in is", c, l)
	}
}

// TestWhatIsWrongTellsNothing has wrong bytes of each kind; what could be read of them is not told.
func TestWhatIsWrongTellsNothing(t *testing.T) {
	for _, c := range []struct {
		b []byte
		e api.Errno
	}{{nil, api.ErrShort}, {[]byte{1}, api.ErrShort}, {[]byte{2, 'A'}, api.ErrShort}, {[]byte{0, 'A'}, api.ErrForm}, {[]byte{1, 'A', 'B'}, api.ErrForm}, {[]byte{1, 'A', 5}, api.ErrForm}} {
		wantName(t, c.b, "", c.e)
	}
	for _, b := range [][]byte{{1}, {2, 'A'}, {0, 1}, {1, 'A', 1}, {1, 'A', 0, 2, 'B'}, {255}} {
		if l, e := Names(b); l != nil || e != api.ErrShort {
			t.Errorf("Names(% x) is %q, %d", b, l, e)
		}
	}
	for _, b := range [][]byte{{}, {1}, {255}} {
		wantComment(t, b, api.Comment{}, api.ErrShort)
	}
}

func TestTheSameAgain(t *testing.T) {
	d := drawer(231)
	for range 200 {
		text := d.text(int(d.byte()))
		b := []byte(text)
		s, e := Name(b)
		wantName(t, b, s, e)
		l, e := Names(b)
		wantNames(t, b, l, e)
		c, e := Comment(b)
		wantComment(t, b, c, e)
		wantRecord(t, "Header once more", Header(text), api.RecTheadr, Header(text).Body)
	}
}
