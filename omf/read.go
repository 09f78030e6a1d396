package omf

import (
	"hansom/api"
	"hansom/data"
	"hansom/fixup"
	"hansom/index"
	"hansom/iter"
	"hansom/names"
	"hansom/pubs"
	"hansom/rec"
	"hansom/segs"
)

// reading is a module as far as it is read: the threads that are told, and whether its end was met.
type reading struct {
	m       api.Module
	threads api.Threads
	ended   bool
}

// Read is the module that bytes begin with, and how many of them it has: a record's error, in order; ErrForm: it does not begin with its name, or a record that may not stand there; ErrBig: more of something than there may be, as soon as that is so; Check's.
func Read(b []byte) (api.Module, int, api.Errno) {
	var x reading
	at, e := x.begin(b)
	for e == api.OK && !x.ended {
		var n int
		n, e = x.next(b[at:])
		at += n
	}
	if e == api.OK {
		e = Check(x.m)
	}
	if e != api.OK {
		return api.Module{}, 0, e
	}
	return x.m, at, api.OK
}

// begin reads a module's first record, its name, and tells how many bytes it has; next, one of those behind it.
func (x *reading) begin(b []byte) (int, api.Errno) {
	r, n, e := rec.Get(b)
	if e != api.OK {
		return 0, e
	}
	if r.Kind != api.RecTheadr {
		return 0, api.ErrForm
	}
	x.m.Name, e = names.Name(r.Body)
	return n, e
}

func (x *reading) next(b []byte) (int, api.Errno) {
	r, n, e := rec.Get(b)
	if e != api.OK {
		return 0, e
	}
	if e = x.record(r.Kind, r.Body); e != api.OK {
		return 0, e
	}
	// Asked behind each record, so that it is told ahead of all that is wrong farther on.
	if big(x.m) {
		return 0, api.ErrBig
	}
	return n, api.OK
}

// record puts what a record tells to the module.
func (x *reading) record(kind byte, b []byte) api.Errno {
	m := &x.m
	var e api.Errno
	switch kind {
	case api.RecComent:
		m.Notes, e = one(m.Notes, names.Comment, b)
	case api.RecLnames:
		m.Names, e = many(m.Names, names.Names, b)
	case api.RecSegdef:
		m.Segs, e = one(m.Segs, segs.Def, b)
	case api.RecGrpdef:
		m.Groups, e = one(m.Groups, segs.Groups, b)
	case api.RecExtdef:
		m.Exts, e = many(m.Exts, pubs.Taken, b)
	case api.RecComdef:
		m.Exts, e = many(m.Exts, pubs.Made, b)
	case api.RecPubdef:
		m.Pubs, e = many(m.Pubs, pubs.Given, b)
	case api.RecLedata:
		m.Datas, e = one(m.Datas, data.Get, b)
	case api.RecLidata:
		m.Datas, e = one(m.Datas, iter.Get, b)
	case api.RecFixupp:
		e = x.fixups(b)
	case api.RecModend:
		e = x.end(b)
	default:
		e = api.ErrForm
	}
	return e
}

// one puts what a record tells behind what is there already; many, all that one tells.
func one[T any](l []T, get func([]byte) (T, api.Errno), b []byte) ([]T, api.Errno) {
	told, e := get(b)
	return append(l, told), e
}

func many[T any](l []T, get func([]byte) ([]T, api.Errno), b []byte) ([]T, api.Errno) {
	told, e := get(b)
	return append(l, told...), e
}

// fixups puts fixups to the data ahead of them: ErrForm: there are none.
func (x *reading) fixups(b []byte) api.Errno {
	last := len(x.m.Datas) - 1
	if last < 0 {
		return api.ErrForm
	}
	d := &x.m.Datas[last]
	l, threads, e := fixup.Get(b, len(d.Bytes), x.threads)
	d.Fixups = append(d.Fixups, l...)
	x.threads = threads
	return e
}

// end ends the module: whether it is the main one, and where the program begins, if it tells that.
func (x *reading) end(b []byte) api.Errno {
	from := index.From(b)
	head := from.Byte()
	x.ended = true
	x.m.Main = head&isMain != 0
	switch head &^ isMain {
	case begins:
		return x.start(from.Take(from.Left()))
	case 0:
		// If there is no byte at all, this tells it.
		return from.End()
	}
	return api.ErrForm
}

// start is where the program begins: a fixup without the bytes that an end leaves out; ErrForm: bytes are left behind it.
func (x *reading) start(b []byte) api.Errno {
	whole := append(fixup.Put(api.Fixup{})[:dropped], b...)
	// How many bytes it has only its reader knows: they are handed to it one more at a time, till none is missing.
	for n := dropped; n <= len(whole); n++ {
		l, _, e := fixup.Get(whole[:n], api.MostData, x.threads)
		if e == api.ErrShort {
			continue
		}
		if e == api.OK && n < len(whole) {
			e = api.ErrForm
		}
		if e == api.OK {
			x.m.Is, x.m.Start = true, l[0]
		}
		return e
	}
	return api.ErrShort
}
