package segs

import (
	"slices"
	"testing"

	"hansom/api"
)

// groups are groups, and their records' bytes, by hand.
var groups = []struct {
	g    api.GrpDef
	text string
}{
	{api.GrpDef{}, "00"}, {api.GrpDef{Segs: []int{}}, "00"}, {api.GrpDef{Name: 1}, "01"}, {api.GrpDef{Name: 127}, "7f"}, {api.GrpDef{Name: 128}, "8080"}, {api.GrpDef{Name: 0x7fff}, "ffff"},
	{api.GrpDef{Name: 5, Segs: []int{2}}, "05 ff02"}, {api.GrpDef{Name: 5, Segs: []int{0}}, "05 ff00"}, {api.GrpDef{Name: 0, Segs: []int{0, 0}}, "00 ff00 ff00"},
	{api.GrpDef{Name: 5, Segs: []int{2, 1}}, "05 ff02 ff01"}, {api.GrpDef{Name: 5, Segs: []int{1, 2}}, "05 ff01 ff02"}, {api.GrpDef{Name: 5, Segs: []int{3, 3, 3}}, "05 ff03 ff03 ff03"},
	{api.GrpDef{Name: 300, Segs: []int{300, 127, 128, 0x1234, 0x7fff}}, "812c ff812c ff7f ff8080 ff9234 ffffff"},
	{api.GrpDef{Name: 0x7fff, Segs: []int{0x7fff, 0x7f00, 0x7fff}}, "ffff ffffff ffff00 ffffff"},
	{api.GrpDef{Name: 255, Segs: []int{255, 254}}, "80ff ff80ff ff80fe"},
	{api.GrpDef{Name: 9, Segs: []int{1, 2, 3, 4, 5, 6, 7, 8}}, "09 ff01 ff02 ff03 ff04 ff05 ff06 ff07 ff08"},
}

// indexed is an index' bytes, reckoned here.
func indexed(n int) []byte {
	if n < 128 {
		return []byte{byte(n)}
	}
	return []byte{byte(n/256 + 128), byte(n % 256)}
}

// grouped is a group's bytes, reckoned here.
func grouped(g api.GrpDef) []byte {
	b := indexed(g.Name)
	for _, n := range g.Segs {
		b = slices.Concat(b, []byte{0xff}, indexed(n))
	}
	return b
}

// group is a group of so many segments.
func (d *drawer) group(many int) api.GrpDef {
	g := api.GrpDef{Name: d.below(32768) >> d.below(15), Segs: make([]int, many)}
	for i := range g.Segs {
		g.Segs[i] = d.below(32768) >> d.below(15)
	}
	return g
}

func TestGroupByHand(t *testing.T) {
	for _, c := range groups {
		b := told(t, c.text)
		wantGroup(t, c.g, b)
		wantGroups(t, b, c.g, api.OK)
	}
}

func TestGroupOfEveryIndex(t *testing.T) {
	for n := range api.MostIndex + 1 {
		for _, g := range []api.GrpDef{{Name: n}, {Name: n, Segs: []int{n}}, {Name: 1, Segs: []int{n}}, {Name: 1, Segs: []int{2, n}}, {Name: 1, Segs: []int{n, 2}}} {
			b := grouped(g)
			wantGroup(t, g, b)
			wantGroups(t, b, g, api.OK)
		}
	}
}

// TestGroupOfNoIndices has indices that there are none of: they count as 0, as an index' bytes have it.
func TestGroupOfNoIndices(t *testing.T) {
	for _, n := range noIndices {
		wantGroup(t, api.GrpDef{Name: n}, []byte{0})
		wantGroup(t, api.GrpDef{Name: n, Segs: []int{1}}, []byte{0, 0xff, 1})
		wantGroup(t, api.GrpDef{Name: 7, Segs: []int{n}}, []byte{7, 0xff, 0})
		wantGroup(t, api.GrpDef{Name: 7, Segs: []int{1, n, 2}}, []byte{7, 0xff, 1, 0xff, 0, 0xff, 2})
	}
}

func TestGroupOfMany(t *testing.T) {
	d := drawer(221)
	for many := range 300 {
		g := d.group(many)
		b := grouped(g)
		wantGroup(t, g, b)
		wantGroups(t, b, g, api.OK)
	}
	for _, many := range []int{1000, 1333, 1999, 2000, 2001, 4000, 32767, 32768, 65536, 100000} {
		g := d.group(many)
		r := Group(g)
		if r.Kind != api.RecGrpdef {
			t.Fatal("the kind is", r.Kind)
		}
		wantGroups(t, r.Body, g, api.OK)
	}
}

func TestGroupsMissing(t *testing.T) {
	d := drawer(222)
	wantGroups(t, nil, api.GrpDef{}, api.ErrShort)
	wantGroups(t, []byte{}, api.GrpDef{}, api.ErrShort)
	wantGroups(t, []byte{0x80}, api.GrpDef{}, api.ErrShort)
	wantGroups(t, []byte{5, 0xff}, api.GrpDef{}, api.ErrShort)
	wantGroups(t, []byte{5, 0xff, 0x81}, api.GrpDef{}, api.ErrShort)
	wantGroups(t, []byte{5, 0xff, 0xff}, api.GrpDef{}, api.ErrShort)
	wantGroups(t, []byte{5, 0xff, 1, 0xff}, api.GrpDef{}, api.ErrShort)
	wantGroups(t, []byte{5, 0xff, 1, 0xff, 0x80}, api.GrpDef{}, api.ErrShort)
	for range 200 {
		g := d.group(d.below(30))
		b := indexed(g.Name)
		for have := range b {
			wantGroups(t, b[:have], api.GrpDef{}, api.ErrShort)
		}
		for i, n := range g.Segs {
			next := slices.Concat(b, []byte{0xff}, indexed(n))
			for have := len(b) + 1; have < len(next); have++ {
				wantGroups(t, next[:have], api.GrpDef{}, api.ErrShort)
			}
			b = next
			wantGroups(t, b, api.GrpDef{Name: g.Name, Segs: g.Segs[:i+1]}, api.OK)
		}
	}
}

func TestGroupsOtherMark(t *testing.T) {
	d := drawer(223)
	for mark := range 255 {
		other := byte(mark)
		for _, b := range [][]byte{{5, other, 1}, {5, 0xff, 1, other, 2}, {5, other, 1, 0xff, 2}, {5, other, 0x81, 0x2c}, {0x81, 0x2c, other, 1}, {5, other, 1, other, 2}} {
			wantGroups(t, b, api.GrpDef{}, api.ErrForm)
		}
		// Behind another mark it isn't asked what stands there.
		for _, b := range [][]byte{{5, other}, {5, 0xff, 1, other}, {5, other, 0x80}, {5, other, 1, 0xff}} {
			wantGroups(t, b, api.GrpDef{}, api.ErrForm)
		}
	}
	for range 500 {
		g := d.group(1 + d.below(20))
		at := d.below(len(g.Segs))
		b := grouped(g)
		b[len(grouped(api.GrpDef{Name: g.Name, Segs: g.Segs[:at]}))] = byte(d.below(255))
		wantGroups(t, b, api.GrpDef{}, api.ErrForm)
	}
}

// modelGroups is what bytes tell, by going through them one by one.
func modelGroups(b []byte) (api.GrpDef, api.Errno) {
	var all []int
	const mark, one, two = 0, 1, 2
	wait, upper := one, 0
	for _, c := range b {
		switch {
		case wait == mark && c != 0xff:
			return api.GrpDef{}, api.ErrForm
		case wait == mark:
			wait = one
		case wait == one && c >= 128:
			wait, upper = two, int(c)-128
		case wait == one:
			all, wait = append(all, int(c)), mark
		default:
			all, wait = append(all, upper*256+int(c)), mark
		}
	}
	if wait != mark {
		return api.GrpDef{}, api.ErrShort
	}
	return api.GrpDef{Name: all[0], Segs: all[1:]}, api.OK
}

func TestGroupsByModel(t *testing.T) {
	letters := []byte{0, 1, 0x7f, 0x80, 0xfe, 0xff}
	var all func(b []byte)
	all = func(b []byte) {
		g, e := modelGroups(b)
		wantGroups(t, b, g, e)
		if len(b) < 7 {
			for _, one := range letters {
				all(append(b, one))
			}
		}
	}
	all(nil)
	d := drawer(224)
	for range 100000 {
		b := d.bytes(d.below(12))
		for i := range b {
			if d.below(3) == 0 {
				b[i] = 0xff
			}
		}
		g, e := modelGroups(b)
		wantGroups(t, b, g, e)
	}
}
