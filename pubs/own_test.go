package pubs

import (
	"bytes"
	"slices"
	"testing"

	"hansom/api"
)

// spoil is what a caller does to bytes, behind their end too.
func spoil(b []byte) {
	b = b[:cap(b)]
	for i := range b {
		b[i] ^= 0xff
	}
}

// roomy is bytes with more of them behind their end, that are none of theirs.
func roomy(b []byte) []byte {
	more := append(slices.Clone(b), "\x00\x01\x62\x03behind"...)
	return more[:len(b)]
}

func TestBytesAreNotChanged(t *testing.T) {
	for _, text := range []string{
		"01 02 01 41 0700 00 01 42 0800 00", "00 00 3412 01 41 0700 00", "01 02 01 41 0700", "01 00 12", "81", "",
		"01 41 00 02 4243 00", "01 41", "02 41", "01 41 00 62 05 01 42 00 61 81 0500 01", "01 41 00 63 05", "01 41 00 62 88 ffffffff", "01 41 00 61 05",
	} {
		b := told(t, text)
		given := roomy(b)
		whole := slices.Clone(given[:cap(given)])
		Given(given)
		Taken(given)
		Made(given)
		if !bytes.Equal(given, b) || !bytes.Equal(given[:cap(given)], whole) {
			t.Errorf("% x is % x now", b, given)
		}
	}
}

// TestNothingBehindCounts has bytes with room behind them: what stands there is none of theirs.
func TestNothingBehindCounts(t *testing.T) {
	wantGiven(t, roomy([]byte{1, 2, 1, 'A', 7}), nil, api.ErrShort)
	wantGiven(t, roomy([]byte{1, 2, 1, 'A', 7, 0}), nil, api.ErrShort)
	wantGiven(t, roomy([]byte{1, 0}), nil, api.ErrShort)
	wantGiven(t, roomy([]byte{1}), nil, api.ErrShort)
	wantGiven(t, roomy([]byte{}), nil, api.OK)
	wantGiven(t, roomy([]byte{1, 2, 1, 'A', 7, 0, 0}), []api.Pub{{Group: 1, Seg: 2, Name: "A", Off: 7}}, api.OK)
	wantTaken(t, roomy([]byte{1, 'A'}), nil, api.ErrShort)
	wantTaken(t, roomy([]byte{1, 'A', 0}), []api.Ext{{Name: "A"}}, api.OK)
	wantMade(t, roomy([]byte{1, 'A', 0}), nil, api.ErrShort)
	wantMade(t, roomy([]byte{1, 'A', 0, near}), nil, api.ErrShort)
	wantMade(t, roomy([]byte{1, 'A', 0, far, 5}), nil, api.ErrShort)
	wantMade(t, roomy([]byte{1, 'A', 0, far, 5, 1}), []api.Ext{{Name: "A", Com: far, Len: 5}}, api.OK)
}

func TestWhatIsReadStays(t *testing.T) {
	b := []byte{1, 0, 0x34, 0x12, 1, 'A', 7, 0, 0, 2, 'B', 'C', 8, 0, 0}
	given, _ := Given(b)
	spoil(b)
	if !slices.Equal(given, []api.Pub{{Group: 1, Frame: 0x1234, Name: "A", Off: 7}, {Group: 1, Frame: 0x1234, Name: "BC", Off: 8}}) {
		t.Errorf("what is given is %+v now", given)
	}
	b = []byte{1, 'A', 0, 2, 'B', 'C', 0}
	taken, _ := Taken(b)
	spoil(b)
	if !slices.Equal(taken, []api.Ext{{Name: "A"}, {Name: "BC"}}) {
		t.Errorf("what is taken is %+v now", taken)
	}
	b = []byte{1, 'A', 0, near, 5, 2, 'B', 'C', 0, far, 3, 2}
	made, _ := Made(b)
	spoil(b)
	if !slices.Equal(made, []api.Ext{{Name: "A", Com: near, Len: 5}, {Name: "BC", Com: far, Len: 6}}) {
		t.Errorf("what may be made is %+v now", made)
	}
}

func TestListsAreTheCallers(t *testing.T) {
	b := []byte{1, 2, 1, 'A', 7, 0, 0, 1, 'B', 8, 0, 0}
	given, _ := Given(b)
	other, _ := Given(b)
	given[0], given[1] = api.Pub{Name: "X"}, api.Pub{Name: "Y"}
	_ = append(given[:0], api.Pub{}, api.Pub{})
	wantList(t, "Given, when another is spoiled, of ", b, other, api.OK, []api.Pub{{Group: 1, Seg: 2, Name: "A", Off: 7}, {Group: 1, Seg: 2, Name: "B", Off: 8}}, api.OK)
	wantGiven(t, b, other, api.OK)
	b = []byte{1, 'A', 0, 1, 'B', 0}
	taken, _ := Taken(b)
	again, _ := Taken(b)
	taken[0], taken[1] = api.Ext{Name: "X"}, api.Ext{Len: 5}
	wantList(t, "Taken, when another is spoiled, of ", b, again, api.OK, []api.Ext{{Name: "A"}, {Name: "B"}}, api.OK)
	wantTaken(t, b, again, api.OK)
	b = []byte{1, 'A', 0, near, 5, 1, 'B', 0, far, 3, 2}
	made, _ := Made(b)
	more, _ := Made(b)
	made[0], made[1] = api.Ext{Name: "X"}, api.Ext{Len: 9}
	wantList(t, "Made, when another is spoiled, of ", b, more, api.OK, []api.Ext{{Name: "A", Com: near, Len: 5}, {Name: "B", Com: far, Len: 6}}, api.OK)
	wantMade(t, b, more, api.OK)
}

func TestWhatIsHandedInIsNotKept(t *testing.T) {
	pubs := []api.Pub{{Group: 1, Seg: 2, Name: "A", Off: 7}, {Group: 3, Seg: 4, Name: "B", Off: 8}, {Name: "behind"}}
	given := Publics(pubs[:2])
	names := []string{"A", "BC", "behind"}
	taken := Externals(names[:2])
	exts := []api.Ext{{Name: "A", Com: 5, Len: 300}, {Name: "B", Com: far, Len: 6}, {Name: "behind"}}
	made := Communal(exts[:2])
	if !slices.Equal(pubs, []api.Pub{{Group: 1, Seg: 2, Name: "A", Off: 7}, {Group: 3, Seg: 4, Name: "B", Off: 8}, {Name: "behind"}}) {
		t.Fatalf("what was given is %+v now", pubs)
	}
	if !slices.Equal(names, []string{"A", "BC", "behind"}) {
		t.Fatalf("what was taken is %q now", names)
	}
	if !slices.Equal(exts, []api.Ext{{Name: "A", Com: 5, Len: 300}, {Name: "B", Com: far, Len: 6}, {Name: "behind"}}) {
		t.Fatalf("what may be made is %+v now", exts)
	}
	clear(pubs)
	clear(names)
	clear(exts)
	wantRecord(t, "Publics, when the names are others,", given, api.RecPubdef, told(t, "01 02 01 41 0700 00 01 42 0800 00"))
	wantRecord(t, "Externals, when the names are others,", taken, api.RecExtdef, told(t, "01 41 00 02 4243 00"))
	wantRecord(t, "Communal, when the names are others,", made, api.RecComdef, told(t, "01 41 00 62 81 2c01 01 42 00 61 06 01"))
}

func TestRecordsAreTheCallers(t *testing.T) {
	for _, one := range []struct {
		what string
		make func() api.Record
		kind byte
		text string
	}{
		{"Publics", func() api.Record { return Publics([]api.Pub{{Group: 1, Seg: 2, Name: "A", Off: 7}}) }, 0x90, "01 02 01 41 0700 00"},
		{"Publics with a frame", func() api.Record { return Publics([]api.Pub{{Frame: 1, Name: "A", Off: 7}}) }, 0x90, "00 00 0100 01 41 0700 00"},
		{"Publics of none", func() api.Record { return Publics(nil) }, 0x90, ""},
		{"Externals", func() api.Record { return Externals([]string{"A", "BC"}) }, 0x8c, "01 41 00 02 4243 00"},
		{"Externals of none", func() api.Record { return Externals(nil) }, 0x8c, ""},
		{"Communal", func() api.Record { return Communal([]api.Ext{{Name: "A", Len: 5}, {Name: "B", Com: far, Len: 6}}) }, 0xb0, "01 41 00 62 05 01 42 00 61 06 01"},
		{"Communal of none", func() api.Record { return Communal(nil) }, 0xb0, ""},
	} {
		body := told(t, one.text)
		first, second := one.make(), one.make()
		spoil(first.Body)
		wantRecord(t, one.what+", when another is spoiled,", second, one.kind, body)
		wantRecord(t, one.what+" once more", one.make(), one.kind, body)
	}
}

// TestWhatIsWrongTellsNothing has right names ahead of what is wrong: none of them is told.
func TestWhatIsWrongTellsNothing(t *testing.T) {
	for _, text := range []string{"01 02 01 41 0700 00 01", "01 02 01 41 0700 00 01 42 08", "00 00 3412 01 41 0700 00 01 42 0800", "01", "01 80"} {
		wantGiven(t, told(t, text), nil, api.ErrShort)
	}
	for _, text := range []string{"01 41 00 01", "01 41 00 01 42", "01 41 00 01 42 80", "01"} {
		wantTaken(t, told(t, text), nil, api.ErrShort)
	}
	for _, c := range []struct {
		text string
		e    api.Errno
	}{{"01 41 00 62 05 01 42 00 62", api.ErrShort}, {"01 41 00 62 05 01 42 00 63 05", api.ErrForm}, {"01 41 00 62 05 01 42 00 62 84 ffffff", api.ErrBig}, {"01 41 00 62 05 01 42 00 61 81 ffff 81 ffff", api.ErrBig}} {
		wantMade(t, told(t, c.text), nil, c.e)
	}
}

func TestTheSameAgain(t *testing.T) {
	d := drawer(331)
	for range 500 {
		b := d.bytes(d.below(16))
		for i := range b {
			b[i] &= 0x83
		}
		given, e := Given(b)
		wantGiven(t, b, given, e)
		taken, e := Taken(b)
		wantTaken(t, b, taken, e)
		made, e := Made(b)
		wantMade(t, b, made, e)
		l := d.pubs(d.below(5))
		wantPublics(t, l, Publics(l).Body)
		x := d.exts(d.below(5))
		wantCommunal(t, x, Communal(x).Body)
	}
}
