package omf

import (
	"bytes"
	"fmt"
	"slices"
	"strings"
	"testing"

	"hansom/api"
)

// spoil is what a caller does to bytes, behind their end too; spoilModule, to a module.
func spoil(b []byte) {
	b = b[:cap(b)]
	for i := range b {
		b[i] ^= 0xff
	}
}

func spoilFixups(l []api.Fixup) {
	l = l[:cap(l)]
	for i := range l {
		l[i].At += 7
		l[i].N++
	}
}

func spoilModule(m api.Module) {
	fill(m.Notes, api.Comment{Flags: 7, Text: "another"})
	fill(m.Names, "another")
	fill(m.Segs, api.SegDef{Len: 77})
	fill(m.Exts, api.Ext{Name: "another"})
	fill(m.Pubs, api.Pub{Name: "another", Seg: 77})
	for i := range m.Groups {
		fill(m.Groups[i].Segs, 77)
	}
	fill(m.Groups, api.GrpDef{Name: 77})
	for i := range m.Datas {
		spoil(m.Datas[i].Bytes)
		spoilFixups(m.Datas[i].Fixups)
	}
	fill(m.Datas, api.Data{Seg: 77})
}

// fill makes all of a list, and what there is room for behind it, another.
func fill[T any](l []T, one T) {
	l = l[:cap(l)]
	for i := range l {
		l[i] = one
	}
}

// roomy is a list with something behind its end, that is none of it.
func roomy[T any](l []T, more ...T) []T {
	return slices.Concat(l, more)[:len(l)]
}

// wide is a module whose lists have all more behind their ends.
func wide(m api.Module) api.Module {
	m = plain(m)
	m.Notes = roomy(m.Notes, api.Comment{Text: strings.Repeat("x", 300)})
	m.Names = roomy(m.Names, "behind", strings.Repeat("x", 300))
	m.Segs = roomy(m.Segs, api.SegDef{Align: 1, Len: 70000}, api.SegDef{Align: 9})
	m.Exts = roomy(m.Exts, api.Ext{Name: "behind", Com: 7}, api.Ext{})
	m.Pubs = roomy(m.Pubs, api.Pub{Name: "behind", Seg: 99}, api.Pub{})
	for i := range m.Groups {
		m.Groups[i].Segs = roomy(m.Groups[i].Segs, 99, 98)
	}
	m.Groups = roomy(m.Groups, api.GrpDef{Name: 99})
	for i := range m.Datas {
		m.Datas[i].Bytes = roomy(m.Datas[i].Bytes, 0x9c, 1, 0, 2)
		m.Datas[i].Fixups = roomy(m.Datas[i].Fixups, api.Fixup{At: -1}, api.Fixup{N: 99})
	}
	m.Datas = roomy(m.Datas, api.Data{Seg: 99})
	return m
}

// shown is a module with all that there is room for behind its lists.
func shown(m api.Module) string {
	text := fmt.Sprintf("%q%+v%+v%+v%+v", m.Name, m.Main, m.Is, m.Start, m.Notes[:cap(m.Notes)])
	text += fmt.Sprintf("%q%+v%+v%+v", m.Names[:cap(m.Names)], m.Segs[:cap(m.Segs)], m.Exts[:cap(m.Exts)], m.Pubs[:cap(m.Pubs)])
	text += fmt.Sprintf("%+v%+v", m.Groups[:cap(m.Groups)], m.Datas[:cap(m.Datas)])
	for _, g := range m.Groups {
		text += fmt.Sprint(g.Segs[:cap(g.Segs)])
	}
	for _, d := range m.Datas {
		text += fmt.Sprint(d.Bytes[:cap(d.Bytes)], d.Fixups[:cap(d.Fixups)])
	}
	return text
}

// modules are some that may be, and some that may not.
func modules() []api.Module {
	l := []api.Module{{}, sample()}
	for _, f := range faults() {
		l = append(l, with(f.do))
	}
	d := drawer(19)
	for range 100 {
		m := d.module()
		l = append(l, m)
		other := plain(m)
		d.spoilt(&other)
		l = append(l, other)
	}
	return l
}

func TestModulesAreNotChanged(t *testing.T) {
	for _, m := range modules() {
		given := wide(m)
		was := shown(given)
		e := Check(given)
		Records(given)
		Write(given)
		Name(given, 1)
		if is := shown(given); is != was {
			t.Errorf("%s is %s now", was, is)
		}
		// What stands behind the lists' ends is not asked.
		wantCheck(t, "with room", m, e)
		b, err := Write(m)
		wideB, wideErr := Write(given)
		if err != wideErr || !bytes.Equal(b, wideB) {
			t.Errorf("Write(%+v) is % x, %d, and with room % x, %d", m, b, err, wideB, wideErr)
		}
	}
}

func TestBytesAreNotChanged(t *testing.T) {
	d := drawer(23)
	for i := range 500 {
		b := written(d.drawnRows()...)
		if i == 0 {
			b = written(sampleRows...)
		}
		given := roomy(b, []byte("\x80\x02\x00\x00behind")...)
		whole := slices.Clone(given[:cap(given)])
		Read(given)
		if !bytes.Equal(given[:cap(given)], whole) {
			t.Errorf("% x is % x now", whole, given[:cap(given)])
		}
	}
}

// TestWhatIsAnsweredStays has what was handed in changed behind the call.
func TestWhatIsAnsweredStays(t *testing.T) {
	for _, m := range modules() {
		given := wide(m)
		l, _ := Records(given)
		b, e := Write(given)
		name := Name(given, 1)
		was, wasName := slices.Clone(b), strings.Clone(name)
		spoilModule(given)
		if !bytes.Equal(b, was) || name != wasName {
			t.Errorf("the bytes % x are % x now, or a name is", was, b)
		}
		var all []byte
		for _, r := range l {
			all = append(all, framed(r.Kind, r.Body)...)
		}
		if e == api.OK && !bytes.Equal(all, was) {
			t.Errorf("the records % x are % x now", was, all)
		}
	}
	b := written(sampleRows...)
	m, n, e := Read(b)
	spoil(b)
	if e != api.OK || n != len(b) || !same(m, sample()) {
		t.Errorf("what was read is %+v, %d, %d now", m, n, e)
	}
}

// TestWhatIsAnsweredIsTheCallers spoils answers: what was handed in and other answers stay.
func TestWhatIsAnsweredIsTheCallers(t *testing.T) {
	m := sample()
	b, _ := Write(m)
	l, _ := Records(m)
	for _, r := range l {
		spoil(r.Body)
	}
	clear(l)
	spoil(b)
	if !same(m, sample()) {
		t.Fatalf("the module is %+v now", m)
	}
	wantRows(t, "once more", m, sampleRows)
	given := written(sampleRows...)
	was := slices.Clone(given)
	first, _, _ := Read(given)
	second, _, _ := Read(given)
	spoilModule(first)
	if !same(second, sample()) || !bytes.Equal(given, was) {
		t.Fatalf("the second module is %+v now, or the bytes are others", second)
	}
	wantRead(t, "once more", given, sample(), len(given))
}

// TestListsOfAnAnswerShareNothing spoils one list of an answer after another: the others stay.
func TestListsOfAnAnswerShareNothing(t *testing.T) {
	b := written(sampleRows...)
	for i, spoils := range []func(m *api.Module){
		func(m *api.Module) { fill(m.Notes, api.Comment{}); m.Notes = sample().Notes },
		func(m *api.Module) { fill(m.Names, "other"); m.Names = sample().Names },
		func(m *api.Module) { fill(m.Segs, api.SegDef{}); m.Segs = sample().Segs },
		func(m *api.Module) { fill(m.Groups[0].Segs, 9); m.Groups[0].Segs = sample().Groups[0].Segs },
		func(m *api.Module) { fill(m.Exts, api.Ext{}); m.Exts = sample().Exts },
		func(m *api.Module) { fill(m.Pubs, api.Pub{}); m.Pubs = sample().Pubs },
		func(m *api.Module) { spoil(m.Datas[0].Bytes); m.Datas[0].Bytes = sample().Datas[0].Bytes },
		func(m *api.Module) { spoil(m.Datas[1].Bytes); m.Datas[1].Bytes = sample().Datas[1].Bytes },
		func(m *api.Module) { spoilFixups(m.Datas[0].Fixups); m.Datas[0].Fixups = sample().Datas[0].Fixups },
	} {
		m, _, _ := Read(b)
		spoils(&m)
		if !same(m, sample()) {
			t.Errorf("list %d: the module is %+v now", i, m)
		}
	}
	l, _ := Records(sample())
	for i := range l {
		spoil(l[i].Body)
		for j, r := range l[i+1:] {
			if !bytes.Equal(r.Body, told(sampleRows[i+1+j].text)) {
				t.Errorf("record %d is spoilt with record %d", i+1+j, i)
			}
		}
	}
}

func TestTheSameAgain(t *testing.T) {
	d := drawer(29)
	for range 1000 {
		m := d.module()
		d.spoilt(&m)
		wantCheck(t, "again", m, Check(m))
		first, e := Write(m)
		second, err := Write(m)
		if e != err || !bytes.Equal(first, second) {
			t.Fatal("Write tells others")
		}
		b := written(d.drawnRows()...)
		want, n, e := Read(b)
		if e != api.OK {
			wantWrong(t, "again", b, e)
			continue
		}
		wantRead(t, "again", b, want, n)
	}
}
