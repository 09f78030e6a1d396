package pubs

import (
	"slices"
	"strings"
	"testing"

	"hansom/api"
)

// givens are names that are given, and their records' bytes, by hand.
var givens = []struct {
	l    []api.Pub
	text string
}{
	{nil, ""}, {[]api.Pub{}, ""},
	{[]api.Pub{{Group: 1, Seg: 2, Name: "A", Off: 7}}, "01 02 01 41 0700 00"},
	{[]api.Pub{{Seg: 1, Name: "START"}}, "00 01 05 5354415254 0000 00"},
	{[]api.Pub{{Name: "AB"}}, "00 00 0000 02 4142 0000 00"},
	{[]api.Pub{{}}, "00 00 0000 00 0000 00"},
	{[]api.Pub{{Frame: 0x1234, Name: "AB", Off: 0xffff}}, "00 00 3412 02 4142 ffff 00"},
	{[]api.Pub{{Group: 5, Frame: 0xffff, Name: "AB", Off: 0x8001}}, "05 00 ffff 02 4142 0180 00"},
	{[]api.Pub{{Group: 5, Name: "AB", Off: 0x00ff}}, "05 00 0000 02 4142 ff00 00"},
	{[]api.Pub{{Frame: 1}}, "00 00 0100 00 0000 00"}, {[]api.Pub{{Frame: 0x100}}, "00 00 0001 00 0000 00"},
	{[]api.Pub{{Group: 127, Seg: 128, Name: "x", Off: 0x100}}, "7f 8080 01 78 0001 00"},
	{[]api.Pub{{Group: 128, Seg: 127, Name: "x", Off: 1}}, "8080 7f 01 78 0100 00"},
	{[]api.Pub{{Group: 300, Seg: 0x1234, Name: "x", Off: 0x1234}}, "812c 9234 01 78 3412 00"},
	{[]api.Pub{{Group: 0x7fff, Seg: 0x7fff, Name: "x"}}, "ffff ffff 01 78 0000 00"},
	{[]api.Pub{{Group: 0x7fff, Frame: 0xabcd, Name: "x"}}, "ffff 00 cdab 01 78 0000 00"},
	{[]api.Pub{{Group: 0x7f00, Seg: 256}}, "ff00 8100 00 0000 00"},
	{[]api.Pub{{Group: 1, Seg: 2, Name: "A", Off: 1}, {Group: 1, Seg: 2, Name: "BC", Off: 2}, {Group: 1, Seg: 2, Off: 3}}, "01 02 01 41 0100 00 02 4243 0200 00 00 0300 00"},
	{[]api.Pub{{Frame: 9, Name: "B", Off: 2}, {Frame: 9, Name: "A", Off: 1}}, "00 00 0900 01 42 0200 00 01 41 0100 00"},
	{[]api.Pub{{Seg: 3, Name: "A", Off: 1}, {Seg: 3, Name: "A", Off: 1}}, "00 03 01 41 0100 00 01 41 0100 00"},
	{[]api.Pub{{Seg: 3}, {Seg: 3}, {Seg: 3}}, "00 03 00 0000 00 00 0000 00 00 0000 00"},
	{[]api.Pub{{Group: 129, Seg: 255, Name: "\x00\xff"}}, "8081 80ff 02 00ff 0000 00"},
}

// reckoned is what a record of given names has, reckoned here.
func reckoned(l []api.Pub) []byte {
	if len(l) == 0 {
		return nil
	}
	b := slices.Concat(indexed(l[0].Group), indexed(l[0].Seg))
	if l[0].Seg == 0 {
		b = append(b, lowFirst(int(l[0].Frame), 2)...)
	}
	for _, p := range l {
		b = append(b, slices.Concat(counted(p.Name), lowFirst(int(p.Off), 2), []byte{0})...)
	}
	return b
}

// pubs is so many names that are given, all of one group and segment.
func (d *drawer) pubs(many int) []api.Pub {
	of := api.Pub{Group: d.index(), Seg: d.index()}
	if d.below(3) == 0 {
		of.Seg, of.Frame = 0, uint16(d.below(65536))
	}
	l := make([]api.Pub, many)
	for i := range l {
		l[i] = of
		l[i].Name, l[i].Off = d.name(), uint16(d.below(65536))
	}
	return l
}

func TestGivenByHand(t *testing.T) {
	for _, c := range givens {
		b := told(t, c.text)
		wantPublics(t, c.l, b)
		wantGiven(t, b, c.l, api.OK)
	}
}

func TestGivenOfNoName(t *testing.T) {
	if r := Publics(nil); r.Kind != api.RecPubdef || len(r.Body) != 0 {
		t.Errorf("Publics of none is %x, % x", r.Kind, r.Body)
	}
	// Of what they would be is told, but none of them.
	for _, text := range []string{"01 02", "00 01", "812c 02", "01 812c", "ffff ffff", "00 00 0000", "01 00 3412", "00 8000 ffff", "ffff 00 0000"} {
		wantGiven(t, told(t, text), nil, api.OK)
	}
}

func TestGivenOfEveryIndex(t *testing.T) {
	for n := range api.MostIndex + 1 {
		for _, of := range []api.Pub{{Group: n, Seg: 1}, {Group: n}, {Group: n, Frame: 0x5678}, {Group: 1, Seg: n}, {Seg: n}, {Group: n, Seg: n}, {Group: 300, Seg: n}, {Group: n, Seg: 300}} {
			of.Name, of.Off = "NAME", uint16(n)
			l := []api.Pub{of}
			b := reckoned(l)
			wantPublics(t, l, b)
			wantGiven(t, b, l, api.OK)
		}
	}
}

// TestGivenOfNoIndices has indices that there are none of: they count as 0, and behind no segment there is a frame.
func TestGivenOfNoIndices(t *testing.T) {
	for _, n := range noIndices {
		wantPublics(t, []api.Pub{{Group: n, Seg: 2, Name: "A", Off: 7}}, told(t, "00 02 01 41 0700 00"))
		wantPublics(t, []api.Pub{{Group: n, Frame: 0x1234, Name: "A", Off: 7}}, told(t, "00 00 3412 01 41 0700 00"))
		wantPublics(t, []api.Pub{{Group: 1, Seg: n, Frame: 0x1234, Name: "A", Off: 7}}, told(t, "01 00 3412 01 41 0700 00"))
		wantPublics(t, []api.Pub{{Group: n, Seg: n, Name: "A", Off: 7}}, told(t, "00 00 0000 01 41 0700 00"))
		// There and back these are no names of other ones.
		wantGiven(t, Publics([]api.Pub{{Group: 1, Seg: n, Frame: 9, Name: "A"}, {Name: "B"}}).Body, []api.Pub{{Group: 1, Frame: 9, Name: "A"}, {Group: 1, Frame: 9, Name: "B"}}, api.OK)
	}
	for _, g := range inds {
		for _, s := range inds {
			b := told(t, g.text+s.text)
			if s.n == 0 {
				b = append(b, 0xcd, 0xab)
			}
			wantPublics(t, []api.Pub{{Group: g.n, Seg: s.n, Frame: 0xabcd}}, append(b, 0, 0, 0, 0))
		}
	}
}

func TestGivenOfEveryOffsetAndFrame(t *testing.T) {
	for n := range 1 << 16 {
		w := uint16(n)
		low, high := byte(n%256), byte(n/256)
		wantPublics(t, []api.Pub{{Group: 1, Seg: 2, Name: "A", Off: w}}, []byte{1, 2, 1, 'A', low, high, 0})
		wantGiven(t, []byte{1, 2, 1, 'A', low, high, 0}, []api.Pub{{Group: 1, Seg: 2, Name: "A", Off: w}}, api.OK)
		wantPublics(t, []api.Pub{{Group: 1, Name: "A", Off: 5, Frame: w}}, []byte{1, 0, low, high, 1, 'A', 5, 0, 0})
		wantGiven(t, []byte{1, 0, low, high, 1, 'A', 5, 0, 0}, []api.Pub{{Group: 1, Name: "A", Off: 5, Frame: w}}, api.OK)
	}
}

// TestGivenFrameWithSegment has a segment and a frame: it doesn't stand in the record.
func TestGivenFrameWithSegment(t *testing.T) {
	for _, s := range inds {
		if s.n == 0 {
			continue
		}
		for _, frame := range []uint16{1, 0x1234, 0xffff} {
			b := slices.Concat([]byte{7}, told(t, s.text), []byte{1, 'A', 9, 0, 0})
			wantPublics(t, []api.Pub{{Group: 7, Seg: s.n, Frame: frame, Name: "A", Off: 9}}, b)
			wantGiven(t, b, []api.Pub{{Group: 7, Seg: s.n, Name: "A", Off: 9}}, api.OK)
		}
	}
}

// TestGivenFirstCounts has names that tell other groups, segments and frames than the first one.
func TestGivenFirstCounts(t *testing.T) {
	for _, c := range []struct {
		l    []api.Pub
		text string
		back []api.Pub
	}{
		{[]api.Pub{{Group: 1, Seg: 2, Name: "A", Off: 7}, {Group: 3, Seg: 4, Frame: 5, Name: "B", Off: 8}, {Name: "C", Off: 9}},
			"01 02 01 41 0700 00 01 42 0800 00 01 43 0900 00",
			[]api.Pub{{Group: 1, Seg: 2, Name: "A", Off: 7}, {Group: 1, Seg: 2, Name: "B", Off: 8}, {Group: 1, Seg: 2, Name: "C", Off: 9}}},
		{[]api.Pub{{Frame: 0x1234, Name: "A", Off: 7}, {Group: 3, Seg: 4, Name: "B", Off: 8}, {Frame: 0x5678, Name: "C", Off: 9}},
			"00 00 3412 01 41 0700 00 01 42 0800 00 01 43 0900 00",
			[]api.Pub{{Frame: 0x1234, Name: "A", Off: 7}, {Frame: 0x1234, Name: "B", Off: 8}, {Frame: 0x1234, Name: "C", Off: 9}}},
		{[]api.Pub{{Seg: 300, Frame: 6, Name: "A"}, {Group: 300, Frame: 6, Name: "B"}},
			"00 812c 01 41 0000 00 01 42 0000 00",
			[]api.Pub{{Seg: 300, Name: "A"}, {Seg: 300, Name: "B"}}},
		{[]api.Pub{{Name: "A"}, {Group: 1, Seg: 2, Frame: 3, Name: "B", Off: 1}},
			"00 00 0000 01 41 0000 00 01 42 0100 00",
			[]api.Pub{{Name: "A"}, {Name: "B", Off: 1}}},
		{[]api.Pub{{Group: 300, Name: "A"}, {Group: 1, Seg: -1, Name: "B"}, {Group: 1, Seg: 40000, Name: "C"}},
			"812c 00 0000 01 41 0000 00 01 42 0000 00 01 43 0000 00",
			[]api.Pub{{Group: 300, Name: "A"}, {Group: 300, Name: "B"}, {Group: 300, Name: "C"}}},
	} {
		b := told(t, c.text)
		wantPublics(t, c.l, b)
		wantGiven(t, b, c.back, api.OK)
	}
}

func TestGivenNames(t *testing.T) {
	d := drawer(301)
	for many := range 600 {
		name := string(d.bytes(many))
		l := []api.Pub{{Group: 1, Seg: 2, Name: name, Off: 7}, {Group: 1, Seg: 2, Name: "B", Off: 8}}
		b := reckoned(l)
		wantPublics(t, l, b)
		if many > 255 {
			l[0].Name = name[:255]
		}
		wantGiven(t, b, l, api.OK)
	}
	for _, many := range []int{1000, 4000, 65535, 65536, 70000} {
		name := strings.Repeat("N", many)
		want := slices.Concat([]byte{0, 1, 255}, []byte(name[:255]), []byte{0, 0, 0})
		wantPublics(t, []api.Pub{{Seg: 1, Name: name}}, want)
	}
}

func TestGivenOfMany(t *testing.T) {
	d := drawer(302)
	for many := range 300 {
		l := d.pubs(many)
		b := reckoned(l)
		wantPublics(t, l, b)
		wantGiven(t, b, l, api.OK)
	}
	for _, many := range []int{1000, 4000, 32768, 65537, 100000} {
		l := d.pubs(many)
		b := reckoned(l)
		wantPublics(t, l, b)
		wantGiven(t, b, l, api.OK)
	}
}

// TestGivenIndexBehindName has each index that may stand behind a name: it counts for nothing.
func TestGivenIndexBehindName(t *testing.T) {
	for _, n := range anyIndices() {
		b := slices.Concat([]byte{1, 2, 1, 'A', 7, 0}, n, []byte{1, 'B', 8, 0}, n)
		wantGiven(t, b, []api.Pub{{Group: 1, Seg: 2, Name: "A", Off: 7}, {Group: 1, Seg: 2, Name: "B", Off: 8}}, api.OK)
		b = slices.Concat([]byte{0, 0, 4, 3, 1, 'A', 7, 0}, n)
		wantGiven(t, b, []api.Pub{{Frame: 0x304, Name: "A", Off: 7}}, api.OK)
	}
}

func TestGivenLongIndexOfLittle(t *testing.T) {
	// Of two bytes where one would do: the same group, the same segment, none of them too.
	wantGiven(t, told(t, "8001 8002 01 41 0700 00"), []api.Pub{{Group: 1, Seg: 2, Name: "A", Off: 7}}, api.OK)
	wantGiven(t, told(t, "8000 807f 01 41 0700 8000"), []api.Pub{{Seg: 127, Name: "A", Off: 7}}, api.OK)
	wantGiven(t, told(t, "807f 8000 3412 01 41 0700 00"), []api.Pub{{Group: 127, Frame: 0x1234, Name: "A", Off: 7}}, api.OK)
}

func TestGivenMissing(t *testing.T) {
	for _, text := range []string{
		"01", "80", "81", "ff", "81 2c", "01 80", "01 ff", "812c ff", "00", "00 00", "00 00 34", "01 8000", "01 8000 34",
		"01 02 01", "01 02 01 41", "01 02 01 41 07", "01 02 01 41 0700", "01 02 01 41 0700 80", "01 02 01 41 0700 ff", "01 02 02 41", "01 02 ff 41 0700 00", "01 02 00", "01 02 00 07", "01 02 00 0700",
		"00 00 3412 01", "00 00 3412 01 41", "00 00 3412 01 41 07", "00 00 3412 01 41 0700", "00 00 3412 01 41 0700 80",
		"01 02 01 41 0700 00 01", "01 02 01 41 0700 00 00", "01 02 01 41 0700 00 01 42", "01 02 01 41 0700 00 01 42 08", "01 02 01 41 0700 00 01 42 0800", "01 02 01 41 0700 00 01 42 0800 80",
	} {
		wantGiven(t, told(t, text), nil, api.ErrShort)
	}
	d := drawer(303)
	for range 300 {
		l := d.pubs(d.below(20))
		// Where one ends there may be an end.
		whole := map[int]int{0: 0}
		for i := range l {
			whole[len(reckoned(l[:i+1]))] = i + 1
		}
		b := reckoned(l)
		if len(l) > 0 {
			whole[len(headed(l))] = 0
		}
		for have := range len(b) + 1 {
			if many, is := whole[have]; is {
				wantGiven(t, b[:have], l[:many], api.OK)
			} else {
				wantGiven(t, b[:have], nil, api.ErrShort)
			}
		}
	}
}

// headed is what stands ahead of the names.
func headed(l []api.Pub) []byte {
	b := slices.Concat(indexed(l[0].Group), indexed(l[0].Seg))
	if l[0].Seg == 0 {
		b = append(b, 0, 0)
	}
	return b
}

// modelGiven is what bytes tell, by where each part stands in them.
func modelGiven(b []byte) ([]api.Pub, api.Errno) {
	if len(b) == 0 {
		return nil, api.OK
	}
	c := cursor{b: b}
	group, seg, frame := c.index(), c.index(), 0
	if seg == 0 {
		frame = c.num(2)
	}
	var l []api.Pub
	for !c.over() {
		p := api.Pub{Group: group, Seg: seg, Frame: uint16(frame), Name: c.text()}
		p.Off = uint16(c.num(2))
		c.index()
		l = append(l, p)
	}
	if c.e != api.OK {
		return nil, c.e
	}
	return l, api.OK
}

func TestGivenByModel(t *testing.T) {
	letters := []byte{0, 1, 2, 0x41, 0x80, 0xff}
	var all func(b []byte)
	all = func(b []byte) {
		l, e := modelGiven(b)
		wantGiven(t, b, l, e)
		if len(b) < 7 {
			for _, one := range letters {
				all(append(b, one))
			}
		}
	}
	all(nil)
	d := drawer(304)
	right := 0
	for range 200000 {
		b := d.bytes(d.below(20))
		for i := range b {
			if d.below(2) == 0 {
				b[i] &= 3
			}
		}
		l, e := modelGiven(b)
		wantGiven(t, b, l, e)
		if e == api.OK && len(l) > 0 {
			right++
			wantGiven(t, Publics(l).Body, l, api.OK)
		}
	}
	if right < 1000 {
		t.Error("only", right, "of these were right")
	}
}
