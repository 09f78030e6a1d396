package lib

import (
	"bytes"
	"encoding/hex"
	"fmt"
	"reflect"
	"strings"
	"testing"

	"hansom/api"
	"hansom/omf"
)

// drawer draws by a rule.
type drawer uint32

func (d *drawer) byte() byte {
	*d = *d*1664525 + 1013904223
	return byte(*d >> 24)
}

// below is a number from 0 on, below most.
func (d *drawer) below(most int) int {
	return (int(d.byte())*65536 + int(d.byte())*256 + int(d.byte())) % most
}

// text is so many bytes.
func (d *drawer) text(many int) string {
	b := make([]byte, many)
	for i := range b {
		b[i] = d.byte()
	}
	return string(b)
}

// names is so many names, no two of which are the same, of at least and at most so many letters.
func (d *drawer) names(many, least, most int) []string {
	var l []string
	met := map[string]int{}
	for len(l) < many {
		s := d.text(least + d.below(most-least+1))
		if met[s]++; met[s] == 1 {
			l = append(l, s)
		}
	}
	return l
}

// told is bytes as they are told by hand, in hexadecimal.
func told(text string) []byte {
	b, err := hex.DecodeString(strings.ReplaceAll(text, " ", ""))
	if err != nil {
		panic(err)
	}
	return b
}

// noughts is so many.
func noughts(many int) []byte { return make([]byte, many) }

// upTo is bytes with noughts behind them, so many in all.
func upTo(many int, b []byte) []byte { return joined(b, noughts(many-len(b))) }

// joined is lists of bytes, one behind the other.
func joined(l ...[]byte) []byte { return bytes.Join(l, nil) }

// gives is a module that gives names.
func gives(names ...string) api.Module {
	var m api.Module
	for _, s := range names {
		m.Pubs = append(m.Pubs, api.Pub{Name: s})
	}
	return m
}

// giveAll is modules that give names, so many at most each.
func giveAll(names []string, each int) []api.Module {
	var l []api.Module
	for len(names) > 0 {
		n := min(each, len(names))
		l = append(l, gives(names[:n]...))
		names = names[n:]
	}
	return l
}

// sized is a module of so many bytes, 10 or more, that gives nothing.
func sized(t testing.TB, many int) api.Module {
	t.Helper()
	rest := many - 10
	m := api.Module{Name: strings.Repeat("N", rest%6)}
	rest -= rest % 6
	for ; rest >= 264; rest -= 258 {
		m.Notes = append(m.Notes, api.Comment{Text: strings.Repeat("x", 252)})
	}
	for ; rest > 0; rest -= 6 {
		m.Notes = append(m.Notes, api.Comment{})
	}
	b, e := omf.Write(m)
	if e != api.OK || len(b) != many {
		t.Fatalf("a module of %d bytes has %d (%d)", many, len(b), e)
	}
	return m
}

// sample is modules of all that there is.
func sample() []api.Module {
	return []api.Module{
		{Name: "first", Pubs: []api.Pub{{Name: "alpha", Off: 7}, {Name: "Beta", Frame: 9}}},
		{
			Name: "second", Main: true, Is: true, Start: api.Fixup{Frame: api.ByTarget, Target: api.BySeg, N: 1},
			Notes: []api.Comment{{Flags: 1, Class: 2, Text: "remark"}}, Names: []string{"", "CODE"},
			Segs: []api.SegDef{{Align: api.AlignPara, Len: 20, Name: 2}}, Groups: []api.GrpDef{{Name: 2, Segs: []int{1}}},
			Exts:  []api.Ext{{Name: "alpha"}, {Name: "room", Com: api.ComNear, Len: 4}},
			Pubs:  []api.Pub{{Group: 1, Seg: 1, Name: "gamma", Off: 3}},
			Datas: []api.Data{{Seg: 1, Off: 2, Bytes: []byte{1, 2, 3}, Fixups: []api.Fixup{{Loc: api.LocOffset, Frame: api.ByTarget, Target: api.ByExt, N: 1}}}},
		},
		{Name: "third"},
		{Name: "fourth", Pubs: []api.Pub{{Name: ""}, {Name: "BETA"}, {Name: "\x80\xff"}}},
	}
}

func mustWrite(t testing.TB, l []api.Module, page int) []byte {
	t.Helper()
	b, e := Write(l, page)
	if e != api.OK {
		t.Fatalf("Write of %d modules on pages of %d: %d", len(l), page, e)
	}
	return b
}

func mustRead(t testing.TB, b []byte) *Library {
	t.Helper()
	x, e := Read(b)
	if e != api.OK || x == nil {
		t.Fatalf("Read of %d bytes: %v, %d", len(b), x, e)
	}
	return x
}

// wantBytes wants bytes, and tells the first that are others.
func wantBytes(t testing.TB, what string, got, want []byte) {
	t.Helper()
	if bytes.Equal(got, want) {
		return
	}
	at := 0
	for at < len(got) && at < len(want) && got[at] == want[at] {
		at++
	}
	t.Fatalf("%s: %d bytes, want %d; at %#x: % x, want % x", what, len(got), len(want), at, got[at:min(at+16, len(got))], want[at:min(at+16, len(want))])
}

// wantWriteError and wantReadError want that nothing but an error is told.
func wantWriteError(t testing.TB, what string, l []api.Module, page int, want api.Errno) {
	t.Helper()
	if b, e := Write(l, page); e != want || b != nil {
		t.Fatalf("Write, %s: %d bytes, %d; want %d", what, len(b), e, want)
	}
}

func wantReadError(t testing.TB, what string, b []byte, want api.Errno) {
	t.Helper()
	if x, e := Read(b); e != want || x != nil {
		t.Fatalf("Read, %s: %v, %d; want %d", what, x, e, want)
	}
}

func wantFind(t testing.TB, x *Library, name string, want int) {
	t.Helper()
	if got := x.Find(name); got != want {
		t.Fatalf("Find(%q) is %d, want %d", name, got, want)
	}
}

func wantModule(t testing.TB, x *Library, page int, want api.Module) {
	t.Helper()
	m, e := x.Module(page)
	if e != api.OK || !same(m, want) {
		t.Fatalf("Module(%d) is %+v, %d; want %+v", page, m, e, want)
	}
}

func wantNoModule(t testing.TB, x *Library, page int, want api.Errno) {
	t.Helper()
	if m, e := x.Module(page); e != want || !reflect.ValueOf(m).IsZero() {
		t.Fatalf("Module(%d) is %+v, %d; want %d", page, m, e, want)
	}
}

// same tells whether two modules are; a list that is empty and one that is nil are the same.
func same(a, b api.Module) bool { return fmt.Sprintf("%+v", a) == fmt.Sprintf("%+v", b) }
