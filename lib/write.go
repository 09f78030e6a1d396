package lib

import (
	"hansom/api"
	"hansom/index"
	"hansom/omf"
)

// mostPages is how many pages modules have at most: where each begins must be told by a word.
const mostPages = 0xffff

// modules is the pages of modules, and what these give.
type modules struct {
	page  int
	bytes []byte
	given []given
}

// given is a name, and the page of the module that gives it.
type given struct {
	name string
	page int
}

// Write is a library's bytes, of modules on pages of so many bytes: ErrInput: no such page; a module's error; ErrTwice: two give the same name; ErrBig: more than there may be.
func Write(l []api.Module, page int) ([]byte, api.Errno) {
	if !mayPage(page) {
		return nil, api.ErrInput
	}
	x := modules{page: page}
	for _, m := range l {
		if e := x.add(m); e != api.OK {
			return nil, e
		}
	}
	if x.twice() {
		return nil, api.ErrTwice
	}
	if len(x.bytes) > api.MostLib || len(x.bytes)/page > mostPages {
		return nil, api.ErrBig
	}
	return x.library(), api.OK
}

// add puts a module behind those that are there: its error.
func (x *modules) add(m api.Module) api.Errno {
	b, e := omf.Write(m)
	if e != api.OK {
		return e
	}
	// The first page has none of a module.
	page := 1 + len(x.bytes)/x.page
	for _, p := range m.Pubs {
		x.given = append(x.given, given{p.Name, page})
	}
	x.bytes = padded(append(x.bytes, b...), x.page)
	return api.OK
}

// twice tells whether a name is given twice.
func (x *modules) twice() bool {
	met := map[string]struct{}{}
	for _, g := range x.given {
		met[g.name] = struct{}{}
	}
	return len(met) < len(x.given)
}

// library is all bytes of the library.
func (x *modules) library() []byte {
	var entries []entry
	for _, g := range x.given {
		entries = append(entries, newEntry(g.name, g.page))
	}
	d := fill(entries)
	end := padded(x.frame(api.RecLibend), x.page)
	begins := x.page + len(x.bytes) + len(end)
	begins = parts(begins, api.LibBlock) * api.LibBlock

	b := x.frame(api.RecLibhdr)
	b = append(b, index.Four(uint32(begins))...)
	b = append(b, index.Two(uint16(d.blocks()))...)
	b = padded(append(b, exact), x.page)
	b = append(b, x.bytes...)
	b = padded(append(b, end...), api.LibBlock)
	return append(b, d...)
}

// frame is what the first page and the last one begin with.
func (x *modules) frame(kind byte) []byte {
	return append([]byte{kind}, index.Two(uint16(x.page-lead))...)
}
