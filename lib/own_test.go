package lib

import (
	"bytes"
	"fmt"
	"slices"
	"strings"
	"testing"

	"hansom/api"
)

// spoil is what a caller does to bytes, behind their end too.
func spoil(b []byte) {
	b = b[:cap(b)]
	for i := range b {
		b[i] ^= 0xff
	}
}

// overwrite makes all of a list, and what there is room for behind it, another.
func overwrite[T any](l []T, one T) {
	l = l[:cap(l)]
	for i := range l {
		l[i] = one
	}
}

// roomy is a list with something behind its end, that is none of it.
func roomy[T any](l []T, more ...T) []T { return slices.Concat(l, more)[:len(l)] }

// wide is modules whose lists have more behind their ends.
func wide(l []api.Module) []api.Module {
	l = slices.Clone(l)
	for i, m := range l {
		m.Pubs = roomy(m.Pubs, api.Pub{Name: "alpha"}, api.Pub{Name: strings.Repeat("x", 300)})
		m.Names = roomy(m.Names, "behind", strings.Repeat("x", 300))
		m.Notes = roomy(m.Notes, api.Comment{Text: "behind"})
		m.Segs = roomy(m.Segs, api.SegDef{Align: 9})
		m.Exts = roomy(m.Exts, api.Ext{Com: 7})
		m.Datas = slices.Clone(m.Datas)
		for j := range m.Datas {
			m.Datas[j].Bytes = roomy(m.Datas[j].Bytes, 9, 9, 9)
			m.Datas[j].Fixups = roomy(m.Datas[j].Fixups, api.Fixup{At: -1})
		}
		m.Groups = slices.Clone(m.Groups)
		for j := range m.Groups {
			m.Groups[j].Segs = roomy(m.Groups[j].Segs, 99)
		}
		l[i] = m
	}
	return roomy(l, gives("alpha"), api.Module{Names: make([]string, 300)})
}

// shown is modules with all that there is room for behind their lists.
func shown(l []api.Module) string {
	text := fmt.Sprintf("%+v", l[:cap(l)])
	for _, m := range l {
		text += fmt.Sprintf("%+v%q%+v%+v%+v", m.Pubs[:cap(m.Pubs)], m.Names[:cap(m.Names)], m.Notes[:cap(m.Notes)], m.Segs[:cap(m.Segs)], m.Exts[:cap(m.Exts)])
		for _, d := range m.Datas {
			text += fmt.Sprint(d.Bytes[:cap(d.Bytes)], d.Fixups[:cap(d.Fixups)])
		}
		for _, g := range m.Groups {
			text += fmt.Sprint(g.Segs[:cap(g.Segs)])
		}
	}
	return text
}

// spoilModules changes all of modules.
func spoilModules(l []api.Module) {
	for _, m := range l {
		overwrite(m.Pubs, api.Pub{Name: "another", Seg: 77})
		overwrite(m.Names, "another")
		overwrite(m.Notes, api.Comment{Text: "another"})
		overwrite(m.Segs, api.SegDef{Len: 77})
		overwrite(m.Exts, api.Ext{Name: "another"})
		for _, d := range m.Datas {
			spoil(d.Bytes)
			overwrite(d.Fixups, api.Fixup{At: 77})
		}
		for _, g := range m.Groups {
			overwrite(g.Segs, 77)
		}
		overwrite(m.Groups, api.GrpDef{Name: 77})
		overwrite(m.Datas, api.Data{Seg: 77})
	}
	overwrite(l, api.Module{Name: "another"})
}

func TestModulesAreNotChanged(t *testing.T) {
	for _, page := range []int{16, 512, 32768, 0} {
		for _, l := range [][]api.Module{sample(), append(sample(), gives("alpha")), append(sample(), api.Module{Is: true}), make([]api.Module, 40)} {
			given := wide(l)
			was := shown(given)
			b, e := Write(given, page)
			if is := shown(given); is != was {
				t.Fatalf("%s is %s now", was, is)
			}
			// What stands behind the lists' ends is not asked.
			want, wantE := Write(l, page)
			if e != wantE {
				t.Fatalf("with room %d, without it %d", e, wantE)
			}
			wantBytes(t, "with room", b, want)
		}
	}
}

func TestBytesWrittenStay(t *testing.T) {
	given := wide(sample())
	b := mustWrite(t, given, 64)
	was := slices.Clone(b)
	spoilModules(given)
	wantBytes(t, "behind a change of the modules", b, was)
	other := mustWrite(t, sample(), 64)
	spoil(b)
	wantBytes(t, "another answer", other, was)
	wantBytes(t, "once more", mustWrite(t, sample(), 64), was)
}

func TestBytesReadAreNotChanged(t *testing.T) {
	b := mustWrite(t, giveAll(drawnNames(90), 30), 32)
	given := roomy(b, []byte("behind")...)
	whole := slices.Clone(given[:cap(given)])
	x := mustRead(t, given)
	for _, name := range drawnNames(120) {
		x.Find(name)
	}
	for n := range len(b) / 32 {
		m, _ := x.Module(n)
		spoilModules([]api.Module{m})
	}
	if !bytes.Equal(given[:cap(given)], whole) {
		t.Error("the bytes are others now")
	}
}

// TestLibraryStays has the bytes changed behind Read, and modules behind Module.
func TestLibraryStays(t *testing.T) {
	b := mustWrite(t, sample(), 512)
	given := roomy(b, 1, 2, 3)
	x := mustRead(t, given)
	want := func() {
		t.Helper()
		if x.Page() != 512 || x.Blocks() != 1 {
			t.Fatalf("Page %d, Blocks %d", x.Page(), x.Blocks())
		}
		for i, m := range sample() {
			wantModule(t, x, 1+i, m)
			for _, p := range m.Pubs {
				wantFind(t, x, p.Name, 1+i)
			}
		}
		wantFind(t, x, "none", 0)
	}
	want()
	spoil(given)
	want()
	for n := 1; n <= 4; n++ {
		m, _ := x.Module(n)
		spoilModules([]api.Module{m})
		want()
	}
	// Two libraries of the same bytes, and two modules of one page, have nothing in common.
	y, z := mustRead(t, b), mustRead(t, b)
	first, _ := y.Module(2)
	second, _ := y.Module(2)
	third, _ := z.Module(2)
	spoilModules([]api.Module{first})
	if !same(second, sample()[1]) || !same(third, sample()[1]) {
		t.Errorf("the second module is %+v, the third one %+v", second, third)
	}
}
