package omf

import (
	"hansom/api"
	"hansom/data"
	"hansom/fixup"
	"hansom/index"
	"hansom/names"
	"hansom/pubs"
	"hansom/rec"
	"hansom/segs"
)

// mostMade is how many bytes what is taken has at most.
const mostMade = 1 << 20

// Records is a module's records: Check's error; ErrForm: names or remarks that are too long, data that may not be, or have too many fixups, or else what can't be written.
func Records(m api.Module) ([]api.Record, api.Errno) {
	if e := Check(m); e != api.OK {
		return nil, e
	}
	if !mayWrite(m) {
		return nil, api.ErrForm
	}
	l := []api.Record{names.Header(m.Name)}
	for _, c := range m.Notes {
		l = append(l, names.Remark(c))
	}
	l = append(l, lists(m.Names)...)
	for _, s := range m.Segs {
		// Check asked whether it may be.
		r, _ := segs.Segment(s)
		l = append(l, r)
	}
	for _, g := range m.Groups {
		l = append(l, segs.Group(g))
	}
	for _, x := range m.Exts {
		l = append(l, taken(x))
	}
	for _, p := range m.Pubs {
		l = append(l, pubs.Publics([]api.Pub{p}))
	}
	for _, d := range m.Datas {
		l = append(l, laid(d)...)
	}
	return append(l, end(m)), api.OK
}

// Write is a module's bytes: Records' error; ErrBig: a record has too many.
func Write(m api.Module) ([]byte, api.Errno) {
	l, e := Records(m)
	if e != api.OK {
		return nil, e
	}
	return rec.Bytes(l)
}

// mayWrite tells whether a module that Check finds right can be told by records, so that it is read as it was.
func mayWrite(m api.Module) bool {
	return mayName(m.Name) && all(m.Names, mayName) &&
		all(m.Notes, func(c api.Comment) bool { return mayName(c.Text) }) &&
		all(m.Exts, mayTake) && all(m.Pubs, mayGive) && all(m.Datas, mayLay)
}

// mayName tells whether a name, or a remark's text, is not too long.
func mayName(s string) bool { return len(s) <= api.MostName }

func mayTake(x api.Ext) bool {
	switch x.Com {
	case 0:
		// Its record has no room for a length.
		return mayName(x.Name) && x.Len == 0
	case api.ComNear, api.ComFar:
		return mayName(x.Name) && x.Len <= mostMade
	}
	return false
}

// mayGive: beside a segment a record has no room for a frame.
func mayGive(p api.Pub) bool { return mayName(p.Name) && (p.Seg == 0 || p.Frame == 0) }

func mayLay(d api.Data) bool { return data.May(d) && len(d.Fixups) <= api.MostExts }

// lists is the records of names: as many in each as it has room for.
func lists(l []string) []api.Record {
	var records []api.Record
	for len(l) > 0 {
		many := fit(l)
		records = append(records, names.List(l[:many]))
		l = l[many:]
	}
	return records
}

// fit is how many of names that are not too long a record has room for, from the first one on: one at least.
func fit(l []string) int {
	room := api.MostBody
	for i, s := range l {
		room -= len(index.Name(s))
		if room < 0 {
			return i
		}
	}
	return len(l)
}

// taken is the record of what is taken.
func taken(x api.Ext) api.Record {
	if x.Com == 0 {
		return pubs.Externals([]string{x.Name})
	}
	return pubs.Communal([]api.Ext{x})
}

// laid is the record of data that may be, and that of their fixups, if there are some.
func laid(d api.Data) []api.Record {
	r, _ := data.Put(d)
	if len(d.Fixups) == 0 {
		return []api.Record{r}
	}
	return []api.Record{r, fixup.Record(d.Fixups)}
}

// end is a module's last record.
func end(m api.Module) api.Record {
	var head byte
	var start []byte
	if m.Main {
		head |= isMain
	}
	if m.Is {
		head |= begins
		start = fixup.Put(m.Start)[dropped:]
	}
	return api.Record{Kind: api.RecModend, Body: append([]byte{head}, start...)}
}
