package segs

import (
	"bytes"
	"slices"
	"testing"

	"hansom/api"
)

// spoil is what a caller does to bytes, behind their end too.
func spoil(b []byte) {
	b = b[:cap(b)]
	for i := range b {
		b[i] ^= 0xff
	}
}

// roomy is bytes with more of them behind their end, that are none of theirs.
func roomy(b []byte) []byte {
	more := append(slices.Clone(b), "\x01\x02\xff\x03behind"...)
	return more[:len(b)]
}

func TestBytesAreNotChanged(t *testing.T) {
	for _, b := range [][]byte{
		{0x68, 5, 0, 2, 3, 1}, {0x68, 5, 0, 2, 3, 1, 9}, {0x68, 5, 0, 2, 3}, {0x69, 5, 0, 2, 3, 1}, {0x0a, 1, 2, 3, 0, 0, 0x81, 0x2c, 3, 1}, {0x68, 5, 0, 0x80},
		{5, 0xff, 1, 0xff, 2}, {5, 0xfe, 1}, {5, 0xff}, {5}, {0x80}, {},
	} {
		given := roomy(b)
		whole := slices.Clone(given[:cap(given)])
		Def(given)
		Groups(given)
		if !bytes.Equal(given, b) || !bytes.Equal(given[:cap(given)], whole) {
			t.Errorf("% x is % x now", b, given)
		}
	}
}

// TestNothingBehindCounts has bytes with room behind them: what stands there is none of theirs.
func TestNothingBehindCounts(t *testing.T) {
	wantDef(t, roomy([]byte{0x68, 5, 0, 2, 3}), api.SegDef{}, api.ErrShort)
	wantDef(t, roomy([]byte{0x68, 5, 0, 2, 3, 0x80}), api.SegDef{}, api.ErrShort)
	wantDef(t, roomy([]byte{0x68, 5, 0, 2, 3, 4}), api.SegDef{Align: 3, Combine: 2, Len: 5, Name: 2, Class: 3, Overlay: 4}, api.OK)
	wantGroups(t, roomy([]byte{5, 0xff}), api.GrpDef{}, api.ErrShort)
	wantGroups(t, roomy([]byte{5, 0xff, 0x80}), api.GrpDef{}, api.ErrShort)
	wantGroups(t, roomy([]byte{5, 0xff, 7}), api.GrpDef{Name: 5, Segs: []int{7}}, api.OK)
	wantGroups(t, roomy([]byte{5}), api.GrpDef{Name: 5}, api.OK)
}

func TestWhatIsReadStays(t *testing.T) {
	b := []byte{0x08, 0x34, 0x12, 7, 5, 0, 2, 0x81, 0x2c, 1}
	s, _ := Def(b)
	spoil(b)
	if s != (api.SegDef{Combine: 2, Frame: 0x1234, Offset: 7, Len: 5, Name: 2, Class: 300, Overlay: 1}) {
		t.Errorf("the segment is %+v now", s)
	}
	b = []byte{5, 0xff, 1, 0xff, 0x81, 0x2c}
	g, _ := Groups(b)
	spoil(b)
	if g.Name != 5 || !slices.Equal(g.Segs, []int{1, 300}) {
		t.Errorf("the group is %v now", g)
	}
}

func TestGroupsAreTheCallers(t *testing.T) {
	b := []byte{5, 0xff, 1, 0xff, 2}
	first, _ := Groups(b)
	second, _ := Groups(b)
	first.Segs[0], first.Segs[1] = 8, 9
	_ = append(first.Segs[:0], 6, 7)
	if !slices.Equal(second.Segs, []int{1, 2}) {
		t.Error("another one has", second.Segs, "now")
	}
	wantGroups(t, b, api.GrpDef{Name: 5, Segs: []int{1, 2}}, api.OK)
}

func TestGroupIsNotKept(t *testing.T) {
	room := []int{1, 300, 77}
	g := api.GrpDef{Name: 5, Segs: room[:2]}
	r := Group(g)
	if !slices.Equal(room, []int{1, 300, 77}) {
		t.Fatal("the segments are", room, "now")
	}
	g.Segs[0], g.Segs[1] = 40, 50
	if !bytes.Equal(r.Body, []byte{5, 0xff, 1, 0xff, 0x81, 0x2c}) {
		t.Errorf("the record is % x now", r.Body)
	}
}

func TestRecordsAreTheCallers(t *testing.T) {
	s := api.SegDef{Combine: 2, Frame: 0x1234, Offset: 7, Len: 5, Name: 2, Class: 300, Overlay: 1}
	g := api.GrpDef{Name: 5, Segs: []int{1, 300}}
	segment := []byte{0x08, 0x34, 0x12, 7, 5, 0, 2, 0x81, 0x2c, 1}
	group := []byte{5, 0xff, 1, 0xff, 0x81, 0x2c}
	first, _ := Segment(s)
	second, _ := Segment(s)
	spoil(first.Body)
	if !bytes.Equal(second.Body, segment) {
		t.Errorf("another record is % x now", second.Body)
	}
	wantSegment(t, s, segment)
	one, other := Group(g), Group(g)
	spoil(one.Body)
	if !bytes.Equal(other.Body, group) {
		t.Errorf("another record is % x now", other.Body)
	}
	wantGroup(t, g, group)
	if !slices.Equal(g.Segs, []int{1, 300}) {
		t.Error("what was handed in is", g)
	}
}

func TestTheSameAgain(t *testing.T) {
	d := drawer(231)
	for range 2000 {
		b := d.bytes(d.below(14))
		s, e := Def(b)
		wantDef(t, b, s, e)
		g, e := Groups(b)
		wantGroups(t, b, g, e)
		drawn := d.drawn()
		r, _ := Segment(drawn)
		wantSegment(t, drawn, r.Body)
		group := d.group(d.below(9))
		wantGroup(t, group, Group(group).Body)
	}
}
