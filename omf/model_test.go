package omf

import (
	"fmt"
	"slices"
	"testing"

	"hansom/api"
	"hansom/data"
	"hansom/fixup"
	"hansom/iter"
	"hansom/names"
	"hansom/pubs"
	"hansom/rec"
	"hansom/segs"
)

// readModel goes through bytes beside Read: it parts them into records first, up to the end or to one that is wrong.
func readModel(b []byte) (api.Module, int, api.Errno) {
	var l []api.Record
	at := 0
	broken := api.OK
	for len(l) == 0 || l[len(l)-1].Kind != 0x8a {
		r, n, e := rec.Get(b[at:])
		if e != api.OK {
			broken = e
			break
		}
		l = append(l, r)
		at += n
	}
	m, e := tellModel(l)
	if e == api.OK {
		e = broken
	}
	if e == api.OK {
		e = checkModel(m)
	}
	if e != api.OK {
		return api.Module{}, 0, e
	}
	return m, at, api.OK
}

// tellModel is what records tell, each alone; nothing of it is asked of all.
func tellModel(l []api.Record) (api.Module, api.Errno) {
	var m api.Module
	var threads api.Threads
	for i, r := range l {
		if (i == 0) != (r.Kind == 0x80) {
			return m, api.ErrForm
		}
		more, e := api.Module{}, api.OK
		switch r.Kind {
		case 0x80:
			more.Name, e = names.Name(r.Body)
		case 0x88:
			var c api.Comment
			c, e = names.Comment(r.Body)
			more.Notes = []api.Comment{c}
		case 0x96:
			more.Names, e = names.Names(r.Body)
		case 0x98:
			var s api.SegDef
			s, e = segs.Def(r.Body)
			more.Segs = []api.SegDef{s}
		case 0x9a:
			var g api.GrpDef
			g, e = segs.Groups(r.Body)
			more.Groups = []api.GrpDef{g}
		case 0x8c:
			more.Exts, e = pubs.Taken(r.Body)
		case 0xb0:
			more.Exts, e = pubs.Made(r.Body)
		case 0x90:
			more.Pubs, e = pubs.Given(r.Body)
		case 0xa0, 0xa2:
			var d api.Data
			if d, e = data.Get(r.Body); r.Kind == 0xa2 {
				d, e = iter.Get(r.Body)
			}
			more.Datas = []api.Data{d}
		case 0x9c:
			if len(m.Datas) == 0 {
				return m, api.ErrForm
			}
			d := &m.Datas[len(m.Datas)-1]
			var more []api.Fixup
			more, threads, e = fixup.Get(r.Body, len(d.Bytes), threads)
			d.Fixups = append(d.Fixups, more...)
		case 0x8a:
			m.Main, m.Is, m.Start, e = endModel(r.Body, threads)
		default:
			e = api.ErrForm
		}
		if e != api.OK {
			return m, e
		}
		m.Name += more.Name
		m.Notes, m.Names, m.Segs, m.Groups = append(m.Notes, more.Notes...), append(m.Names, more.Names...), append(m.Segs, more.Segs...), append(m.Groups, more.Groups...)
		m.Exts, m.Pubs, m.Datas = append(m.Exts, more.Exts...), append(m.Pubs, more.Pubs...), append(m.Datas, more.Datas...)
		if len(m.Segs) > 64 || len(m.Groups) > 64 || len(m.Exts) > 256 || len(m.Pubs) > 256 || len(m.Names) > 256 || len(m.Datas) > 512 {
			return m, api.ErrBig
		}
	}
	return m, api.OK
}

// endModel is what an end tells; the bytes of its beginning are counted by what its first one tells.
func endModel(b []byte, threads api.Threads) (isMain, is bool, f api.Fixup, e api.Errno) {
	if len(b) == 0 {
		return false, false, f, api.ErrShort
	}
	head := b[0]
	isMain = head >= 128
	switch head % 128 {
	case 0:
		if len(b) > 1 {
			return false, false, f, api.ErrForm
		}
		return isMain, false, f, api.OK
	case 65:
		l, _, e := fixup.Get(slices.Concat([]byte{0xc0, 0}, b[1:1+startModel(b[1:])]), 4, threads)
		if e == api.OK && len(b) > 1+startModel(b[1:]) {
			e = api.ErrForm
		}
		if e != api.OK {
			return false, false, f, e
		}
		return isMain, true, l[0], api.OK
	}
	return false, false, f, api.ErrForm
}

// startModel is how many bytes a beginning has, of those that are there.
func startModel(b []byte) int {
	if len(b) == 0 {
		return 0
	}
	many := 1
	indexed := func() {
		if many < len(b) && b[many] >= 128 {
			many++
		}
		many++
	}
	third := b[0]
	if third < 128 && third/16 < 3 {
		indexed()
	}
	if third/8%2 == 0 {
		indexed()
	}
	if third/4%2 == 0 {
		many += 2
	}
	return min(many, len(b))
}

// wantModels has Read tell what the model tells.
func wantModels(t *testing.T, what string, b []byte) api.Errno {
	t.Helper()
	m, n, e := readModel(b)
	if e != api.OK {
		wantWrong(t, what, b, e)
	} else {
		wantRead(t, what, b, m, n)
	}
	return e
}

// pool is records of all kinds, most of which may be.
var pool = []row{
	{0x88, "0102 41"}, {0x96, "00 0141"}, {0x96, "03414243"}, {0x96, ""}, {0x98, "20 0800 00 00 00"}, {0x98, "68 4000 01 02 01"}, {0x98, "22 0000 02 02 02"}, {0x98, "00 00b8 09 a00f 01 00 01"},
	{0x9a, "01 ff01"}, {0x9a, "02 ff01 ff02"}, {0x8c, "0141 00"}, {0x8c, "0142 00 0143 00"}, {0xb0, "0144 00 62 05"}, {0xb0, "0145 00 61 02 03"}, {0x90, "00 01 0146 0500 00"}, {0x90, "00 00 4000 0147 0500 00"}, {0x90, "01 02 0148 0500 00"},
	{0xa0, "01 0000 0102030405060708"}, {0xa0, "02 0000 0102030405060708"}, {0xa0, "01 0100 0102030405060708"}, {0xa2, "01 0000 0200 0000 04 01020304"}, {0xa2, "02 0000 0200 0100 0100 0000 03 010203"},
	{0x9c, ""}, {0x9c, "c402 54 01"}, {0x9c, "cc04 04 01 01"}, {0x9c, "8401 50 02 0500"}, {0x9c, "c402 55 01"}, {0x9c, "c402 56 02"}, {0x9c, "40 01 00 02"}, {0x9c, "c402 8c"}, {0x9c, "c403 88 0700"}, {0x9c, "43 02 05 01 c402 9c 03"}, {0x9c, "c406 54 01"},
}

// poor is records that may not be, or not everywhere.
var poor = []row{
	{0x80, "0141"}, {0x88, "01"}, {0x96, "0241"}, {0x98, "20 0800 00 00"}, {0x98, "21 0800 00 00 00"}, {0x98, "20 0800 7f 00 00"}, {0x9a, ""}, {0x9a, "01 fe01"}, {0x9a, "00"}, {0x8c, "0141"}, {0xb0, "0144 00 63 05"}, {0xb0, "0144 00 62 84010010"},
	{0x90, "01"}, {0x90, "00 7f 0146 0500 00"}, {0xa0, "01 0000"}, {0xa0, "00 0000 01"}, {0xa0, "7f 0000 01"}, {0xa0, "01 feff 01"}, {0xa2, "01 0000 0000 0000 01 01"}, {0xa2, "01 0000 ffff 0000 02 0101"},
	{0x9c, "c4"}, {0x9c, "c402 54 00"}, {0x9c, "c402 9d"}, {0x9c, "c402 54 7f"}, {0x9c, "60 01"}, {0x82, "00"}, {0xa4, ""}, {0xf0, "00"}, {0xf1, "00"}, {0x8a, "01"}, {0x8a, ""}, {0x8a, "80 00"},
}

var ends = []row{
	{0x8a, "00"}, {0x8a, "80"}, {0x8a, "41 54 01"}, {0x8a, "c1 50 01 0500"}, {0x8a, "41 04 01 01"}, {0x8a, "c1 56 01"}, {0x8a, "c1 15 01 01"}, {0x8a, "41 8c"}, {0x8a, "41 44 01"}, {0x8a, "41 54 7f"}, {0x8a, "41 54"}, {0x8a, "41 54 01 00"},
}

// drawnRows is a name, drawn records, and an end.
func (d *drawer) drawnRows() []row {
	l := []row{{0x80, "0141"}}
	for _, i := range []int{1, 5, 6} {
		if d.below(8) > 0 {
			l = append(l, pool[i])
		}
	}
	for range d.below(10) {
		l = append(l, pool[d.below(len(pool))])
		if d.below(40) == 0 {
			l = append(l, poor[d.below(len(poor))])
		}
	}
	return append(l, ends[d.below(len(ends))])
}

func TestReadBesideItsModel(t *testing.T) {
	d := drawer(13)
	seen := map[api.Errno]int{}
	for range 20000 {
		l := d.drawnRows()
		seen[wantModels(t, fmt.Sprint(l), slices.Concat(written(l...), d.bytes(d.below(3))))]++
	}
	for e, least := range map[api.Errno]int{api.OK: 2000, api.ErrForm: 2000, api.ErrIndex: 2000, api.ErrShort: 500, api.ErrBig: 10} {
		if seen[e] < least {
			t.Errorf("%d of them are %d", seen[e], e)
		}
	}
}

// mayTell is the errors that Read may tell.
func mayTell(e api.Errno) bool {
	return slices.Contains([]api.Errno{api.OK, api.ErrShort, api.ErrForm, api.ErrSum, api.ErrIndex, api.ErrBig}, e)
}

// TestReadOfBentBytes has each byte of a module bent in each way, with its record's check sum made right and not.
func TestReadOfBentBytes(t *testing.T) {
	rows := [][]row{sampleRows, {{0x80, "0141"}, {0x98, "20 0800 00 00 00"}, {0xa2, "01 0000 0200 0000 02 0102"}, {0x9c, "41 01 c400 94 01"}, {0x8a, "41 9c 01"}}}
	seen := map[api.Errno]int{}
	for _, l := range rows {
		b := written(l...)
		from := 0
		for _, r := range l {
			to := from + 4 + len(told(r.text))
			for at := from; at < to; at++ {
				for by := 1; by < 256; by++ {
					bent := slices.Clone(b)
					bent[at] ^= byte(by)
					seen[wantModels(t, fmt.Sprint("byte ", at, " bent by ", by), bent)]++
					if at < to-1 {
						bent[to-1] -= bent[at] - b[at]
						seen[wantModels(t, fmt.Sprint("byte ", at, " bent by ", by, ", made right"), bent)]++
					}
				}
			}
			from = to
		}
	}
	for e := range seen {
		if !mayTell(e) {
			t.Errorf("Read tells %d", e)
		}
	}
}

// TestReadOfBentSums has a sum that isn't made right told, wherever a byte of a body is bent.
func TestReadOfBentSums(t *testing.T) {
	b := written(sampleRows...)
	from := 0
	for _, r := range sampleRows {
		to := from + 4 + len(told(r.text))
		for at := from + 3; at < to-1; at++ {
			bent := slices.Clone(b)
			bent[at] ^= 0x41
			wantWrong(t, fmt.Sprint("byte ", at), bent, api.ErrSum)
		}
		from = to
	}
}

// TestReadOfAnyBytes has bytes by chance: what is read of them Check finds right, and it is read as it was, where it can be written.
func TestReadOfAnyBytes(t *testing.T) {
	d := drawer(17)
	for range 20000 {
		b := d.bytes(d.below(40))
		if len(b) > 2 {
			b[0], b[1], b[2] = 0x80, 2, 0
		}
		wantModels(t, "any bytes", b)
	}
	for range 10000 {
		l := d.drawnRows()
		b := written(l...)
		for range 1 + d.below(3) {
			b[d.below(len(b))] = d.byte()
		}
		wantModels(t, fmt.Sprint(l, " bent"), b)
		m, _, e := Read(b)
		if e != api.OK {
			continue
		}
		wantCheck(t, "what was read", m, api.OK)
		again, e := Write(m)
		if e == api.OK {
			wantRead(t, "what was read", again, m, len(again))
		}
	}
}
