package omf

import (
	"bytes"
	"encoding/hex"
	"fmt"
	"slices"
	"strings"
	"testing"

	"hansom/api"
)

// behind are bytes that may stand behind a module.
var behind = []string{"", "00", "80", "8a0200", "80 0300 01 41 3b 8a 0200 00 74", "ffffffffffff", "9c 0100 63", "00000000000000000000000000000000"}

func TestReadByHand(t *testing.T) {
	wantRead(t, "nothing", told("80 0200 00 7e 8a 0200 00 74"), api.Module{}, 10)
	wantRead(t, "a name", told("80 0300 01 41 3b 8a 0200 00 74"), api.Module{Name: "A"}, 11)
	b := written(sampleRows...)
	for _, more := range behind {
		wantRead(t, "the sample", slices.Concat(b, told(more)), sample(), len(b))
	}
}

func TestReadOfWrite(t *testing.T) {
	d := drawer(11)
	for range 10000 {
		m := d.module()
		b, e := Write(m)
		if e != api.OK {
			t.Fatalf("Write(%+v) is %d", m, e)
		}
		wantRead(t, "what was written", slices.Concat(b, d.bytes(d.below(20))), m, len(b))
	}
}

// TestReadOfRecordsWithoutCheckSums has a check sum of 0 in each, which is none.
func TestReadOfRecordsWithoutCheckSums(t *testing.T) {
	var b []byte
	for _, r := range sampleRows {
		one := framed(r.kind, told(r.text))
		one[len(one)-1] = 0
		b = append(b, one...)
	}
	wantRead(t, "the sample", b, sample(), len(b))
}

func TestReadOfMissingBytes(t *testing.T) {
	b := written(sampleRows...)
	for many := range b {
		wantWrong(t, fmt.Sprint(many, " bytes"), b[:many:many], api.ErrShort)
		// What stands behind an end of a slice is none of its bytes.
		wantWrong(t, fmt.Sprint(many, " bytes, with room"), b[:many], api.ErrShort)
	}
	wantWrong(t, "none", nil, api.ErrShort)
}

// TestReadOfMissingBytesWithin has each record cut off, with its length and check sum right.
func TestReadOfMissingBytesWithin(t *testing.T) {
	for i, r := range sampleRows {
		body := told(r.text)
		for many := range body {
			rows := changed(i, hex.EncodeToString(body[:many]))
			b := written(rows...)
			m, n, e := readModel(b)
			if e == api.OK {
				wantRead(t, "a record cut off", b, m, n)
				continue
			}
			wantWrong(t, "a record cut off", b, e)
		}
	}
	for _, r := range []row{
		{0x80, ""}, {0x80, "02 41"}, {0x88, ""}, {0x88, "00"}, {0x96, "02 41"}, {0x98, ""}, {0x98, "68 0c00 02 02"}, {0x98, "00 00b8 09 a00f 04 00"}, {0x9a, ""}, {0x9a, "01 ff"},
		{0x8c, "01 41"}, {0xb0, "01 41 00 62"}, {0xb0, "01 41 00 61 05"}, {0x90, "01"}, {0x90, "00 00 01"}, {0x90, "00 01 01 41 05"}, {0xa0, ""}, {0xa0, "01 00"}, {0xa2, ""}, {0xa2, "01 0000 0100"}, {0x8a, ""},
	} {
		rows := []row{{0x80, "00"}, r}
		if r.kind == 0x80 {
			rows = []row{r}
		}
		wantWrong(t, r.text, written(append(rows, row{0x8a, "00"})...), api.ErrShort)
	}
}

func TestReadOfAFirstRecordThatIsNoName(t *testing.T) {
	for kind := range 256 {
		if kind == 0x80 {
			continue
		}
		for _, text := range []string{"", "00", "01 41"} {
			wantWrong(t, fmt.Sprint(kind), slices.Concat(written(row{byte(kind), text}), written(sampleRows...)), api.ErrForm)
		}
	}
	end := written(row{0x8a, "00"})
	wantWrong(t, "bytes behind the name", slices.Concat(written(row{0x80, "01 4141"}), end), api.ErrForm)
	wantWrong(t, "a name that is bent", slices.Concat(told("80 0300 01 41 3c"), end), api.ErrSum)
	wantWrong(t, "another kind that is bent", slices.Concat(told("88 0300 01 41 3c"), end), api.ErrSum)
	wantWrong(t, "not even a check sum", slices.Concat(told("80 0000"), end), api.ErrForm)
	wantWrong(t, "more than there may be", slices.Concat(framed(0x80, make([]byte, 4001)), end), api.ErrBig)
	wantWrong(t, "an end", end, api.ErrForm)
}

// kinds is what a record of no bytes is, of each kind that may stand behind the name, and of two.
var kinds = map[int][2]api.Errno{
	0x88: {api.ErrShort, api.OK}, 0x96: {api.OK, api.OK}, 0x98: {api.ErrShort, api.ErrShort}, 0x9a: {api.ErrShort, api.ErrForm}, 0x8c: {api.OK, api.OK},
	0xb0: {api.OK, api.ErrShort}, 0x90: {api.OK, api.ErrShort}, 0xa0: {api.ErrShort, api.ErrShort}, 0xa2: {api.ErrShort, api.ErrShort}, 0x9c: {api.ErrForm, api.ErrForm}, 0x8a: {api.ErrShort, api.ErrForm},
}

func TestReadOfEachKind(t *testing.T) {
	for kind := range 256 {
		want, is := kinds[kind]
		if !is {
			want = [2]api.Errno{api.ErrForm, api.ErrForm}
		}
		for i, text := range []string{"", "00 00"} {
			b := wrapped(row{byte(kind), text})
			if want[i] != api.OK {
				wantWrong(t, fmt.Sprint(kind, " of ", text), b, want[i])
				continue
			}
			var m api.Module
			switch {
			case kind == 0x88:
				m.Notes = []api.Comment{{}}
			case kind == 0x96 && i == 1:
				m.Names = []string{"", ""}
			case kind == 0x8c && i == 1:
				m.Exts = []api.Ext{{}}
			}
			wantRead(t, fmt.Sprint(kind, " of ", text), b, m, len(b))
		}
	}
}

// TestReadOfTwoNames has a second first record: it is of another kind there.
func TestReadOfTwoNames(t *testing.T) {
	wantWrong(t, "a second name", wrapped(row{0x80, "01 41"}), api.ErrForm)
	wantWrong(t, "the same name", wrapped(row{0x80, "00"}), api.ErrForm)
}

// TestReadOfABentRecord has each record bent, in its turn: the first one counts.
func TestReadOfABentRecord(t *testing.T) {
	for i := range sampleRows {
		ahead, rest := written(sampleRows[:i]...), written(sampleRows[i:]...)
		bent := framed(sampleRows[i].kind, told(sampleRows[i].text))
		sum := len(bent) - 1
		for _, by := range []byte{1, 0x80, 0xff} {
			if bent[sum]^by == 0 {
				continue
			}
			other := slices.Clone(rest)
			other[sum] ^= by
			wantWrong(t, "a check sum", slices.Concat(ahead, other), api.ErrSum)
		}
		for what, c := range map[string]struct {
			text string
			e    api.Errno
		}{
			"no check sum":     {"88 0000", api.ErrForm},
			"too much":         {"88 a20f", api.ErrBig},
			"far too much":     {"88 ffff", api.ErrBig},
			"missing":          {"88 a10f", api.ErrShort},
			"another kind":     {"01 0100 fe", api.ErrForm},
			"a library's page": {"f0 0d00 00000000000000000000000000 00", api.ErrForm},
			"a library's end":  {"f1 0d00 00000000000000000000000000 00", api.ErrForm},
		} {
			if i > 0 {
				wantWrong(t, what, slices.Concat(ahead, told(c.text), rest), c.e)
			}
		}
	}
}

func TestReadOfRecordsPutTogether(t *testing.T) {
	want := sample()
	// Of each kind that has many all in one record; the data stand ahead of their segments, and all is in another order.
	rows := []row{
		{0x80, "05 412e41534d"},
		{0xa0, "01 0000 b800009a00000000"},
		{0x9c, "c801 15 01 01 cc04 52 01 0500"},
		{0x9a, "04 ff02 ff01"},
		{0x90, "01 02 0156 0400 00"},
		{0x88, "80 41 6869"},
		{0xa0, "02 feff 0102"},
		{0x9a, "01"},
		{0x98, "68 0c00 02 02 01"},
		{0x90, "00 00 4000 03434c4b 6c00 00"},
		{0x88, "00 00"},
		{0xa0, "01 0800 e80000f4"},
		{0x8c, "0450555453 00"},
		{0xb0, "03425546 00 62 812c01 03464152 00 61 02 03"},
		{0x98, "56 0000 8003 00 00"},
		{0x98, "00 00b8 09 a00f 04 00 01"},
		{0x9c, "8401 40 03 ffff"},
		{0x96, "00 04434f4445 0444415441 064447524f5550"},
		{0x8a, "c1 00 01 8001 0800"},
	}
	b := written(rows...)
	wantRead(t, "another order", b, want, len(b))
	m := api.Module{
		Names: []string{"", "A", "B", "C", "D"},
		Segs:  []api.SegDef{{Align: 1, Len: 8, Name: 5}},
		Exts:  []api.Ext{{Name: "A"}, {Name: "B"}, {Name: "C", Com: 0x62, Len: 5}, {Name: "D", Com: 0x61, Len: 1 << 20}, {Name: "E"}},
		Pubs:  []api.Pub{{Seg: 1, Name: "P"}, {Seg: 1, Name: "Q", Off: 7}, {Frame: 0x40, Name: "R", Off: 9}, {Frame: 0x40, Name: "S", Off: 0xffff}, {Name: "T"}},
	}
	b = wrapped(
		row{0x96, "00 0141"}, row{0x8c, "0141 00 0142 05"}, row{0x90, "00 01 0150 0000 00 0151 0700 8123"}, row{0x96, ""}, row{0xb0, "0143 00 62 05 0144 00 61 811000 84000001"},
		row{0x98, "20 0800 05 00 00"}, row{0x90, "00 00 4000 0152 0900 00 0153 ffff 00"}, row{0x90, ""}, row{0x96, "0142 0143 0144"}, row{0x8c, "0145 00"}, row{0x90, "00 00 0000 0154 0000 00"},
	)
	wantRead(t, "several in a record", b, m, len(b))
}

func TestReadOfDataThatStandManyTimes(t *testing.T) {
	m := api.Module{Segs: []api.SegDef{{Align: 1, Len: 1 << 16}}}
	seg := row{0x98, "22 0000 00 00 00"}
	m.Datas = []api.Data{{Seg: 1, Off: 5, Bytes: []byte("xyxyxy")}}
	b := wrapped(seg, row{0xa2, "01 0500 0300 0000 02 7879"})
	wantRead(t, "three times", b, m, len(b))
	m.Datas[0].Fixups = []api.Fixup{{At: 4, Loc: 1, Frame: 5, N: 1}}
	b = wrapped(seg, row{0xa2, "01 0500 0300 0000 02 7879"}, row{0x9c, "c404 54 01"})
	wantRead(t, "with a fixup", b, m, len(b))
	wantWrong(t, "with one behind them", wrapped(seg, row{0xa2, "01 0500 0300 0000 02 7879"}, row{0x9c, "c405 54 01"}), api.ErrForm)
	// More bytes than a record of data has, up to all of a segment.
	for _, many := range []int{1024, 1025, 1027, 5000, 65535} {
		m.Datas[0] = api.Data{Seg: 1, Bytes: bytes.Repeat([]byte{7}, many), Fixups: []api.Fixup{{At: 1020, Loc: 3, Frame: 5, N: 1}}}
		b = wrapped(seg, row{0xa2, fmt.Sprintf("01 0000 %02x%02x 0000 01 07", many%256, many/256)}, row{0x9c, "cffc 54 01"})
		wantRead(t, fmt.Sprint(many, " bytes"), b, m, len(b))
		if many > 1024 {
			wantUnwritten(t, fmt.Sprint(many, " bytes"), m, api.ErrForm)
		}
	}
	m.Datas[0] = api.Data{Seg: 1, Bytes: bytes.Repeat([]byte{1, 2}, 32768)}
	b = wrapped(seg, row{0xa2, "01 0000 0080 0000 02 0102"})
	wantRead(t, "all of a segment", b, m, len(b))
	wantWrong(t, "more", wrapped(seg, row{0xa2, "01 0000 0180 0000 02 0102"}), api.ErrBig)
	wantWrong(t, "behind the end", wrapped(seg, row{0xa2, "01 0100 0080 0000 02 0102"}), api.ErrBig)
	wantWrong(t, "none", wrapped(seg, row{0xa2, "01 0100"}), api.ErrForm)
	wantWrong(t, "of no segment", wrapped(seg, row{0xa2, "00 0000 0300 0000 02 7879"}), api.ErrForm)
	wantWrong(t, "behind its segment", wrapped(row{0x98, "20 0a00 00 00 00"}, row{0xa2, "01 0500 0300 0000 02 7879"}), api.ErrForm)
	wantWrong(t, "of a segment that there is not", wrapped(seg, row{0xa2, "02 0500 0300 0000 02 7879"}), api.ErrIndex)
}

// twoSegs and twoDatas are rows of a module, with eight bytes in either.
var twoSegs = []row{{0x98, "20 0800 00 00 00"}, {0x98, "20 0800 00 00 00"}}

func eight(seg int, l ...api.Fixup) api.Data {
	return api.Data{Seg: seg, Bytes: []byte("abcdefgh"), Fixups: l}
}

// two is a module with two segments, and such data.
func two(l ...api.Data) api.Module {
	return api.Module{Segs: []api.SegDef{{Align: 1, Len: 8}, {Align: 1, Len: 8}}, Datas: l}
}

const (
	inFirst  = "01 0000 6162636465666768"
	inSecond = "02 0000 6162636465666768"
)

func TestReadOfFixups(t *testing.T) {
	at := func(n int) api.Fixup { return api.Fixup{At: n, Loc: 1, Frame: 5, N: 2} }
	for _, c := range []struct {
		what string
		rows []row
		want api.Module
	}{
		{"none", []row{{0xa0, inFirst}, {0x9c, ""}}, two(eight(1))},
		{"one", []row{{0xa0, inFirst}, {0x9c, "c403 54 02"}}, two(eight(1, at(3)))},
		{"in their order", []row{{0xa0, inFirst}, {0x9c, "c403 54 02 c401 54 02 c403 54 02"}}, two(eight(1, at(3), at(1), at(3)))},
		{"in three records", []row{{0xa0, inFirst}, {0x9c, "c403 54 02"}, {0x9c, ""}, {0x9c, "c401 54 02 c402 54 02"}, {0x9c, "c400 54 02"}}, two(eight(1, at(3), at(1), at(2), at(0)))},
		{"of the last data", []row{{0xa0, inFirst}, {0xa0, inSecond}, {0x9c, "c403 54 02"}}, two(eight(1), eight(2, at(3)))},
		{"of the first data", []row{{0xa0, inFirst}, {0x9c, "c403 54 02"}, {0xa0, inSecond}}, two(eight(1, at(3)), eight(2))},
		{"of both", []row{{0xa0, inSecond}, {0x9c, "c403 54 02"}, {0xa0, inFirst}, {0x9c, "c406 54 02"}}, two(eight(2, at(3)), eight(1, at(6)))},
		{"behind others", []row{{0xa0, inFirst}, {0x96, ""}, {0x8c, ""}, {0x9c, "c403 54 02"}, {0x90, ""}, {0x9c, "c406 54 02"}}, two(eight(1, at(3), at(6)))},
	} {
		b := wrapped(slices.Concat(twoSegs, c.rows)...)
		wantRead(t, c.what, b, c.want, len(b))
	}
	for what, text := range map[string]string{"behind the data": "c407 54 02", "far behind": "c7ff 54 02", "of no such kind": "d403 54 02", "in no such frame": "c403 34 02", "at no such target": "c403 57 02", "at none": "c403 54 00"} {
		wantWrong(t, what, wrapped(slices.Concat(twoSegs, []row{{0xa0, inFirst}, {0x9c, text}})...), api.ErrForm)
	}
	for what, text := range map[string]string{"cut off": "c4", "in its frame": "c403 04", "in its target": "c403 54 80", "in Disp": "c403 50 02 01", "a second one": "c403 54 02 c4"} {
		wantWrong(t, what, wrapped(slices.Concat(twoSegs, []row{{0xa0, inFirst}, {0x9c, text}})...), api.ErrShort)
	}
	wantWrong(t, "of a segment that there is not", wrapped(slices.Concat(twoSegs, []row{{0xa0, inFirst}, {0x9c, "c403 54 03"}})...), api.ErrIndex)
}

func TestReadOfManyFixups(t *testing.T) {
	at := api.Fixup{At: 3, Loc: 1, Frame: 5, N: 2}
	for _, many := range []int{256, 257, 1000, 3000} {
		rows := slices.Concat(twoSegs, []row{{0xa0, inFirst}}, slices.Repeat([]row{{0x9c, strings.Repeat("c403 54 02", 250)}}, many/250), []row{{0x9c, strings.Repeat("c403 54 02", many%250)}})
		b := wrapped(rows...)
		m := two(eight(1, slices.Repeat([]api.Fixup{at}, many)...))
		wantRead(t, fmt.Sprint(many), b, m, len(b))
	}
}

// TestReadOfFixupsWithoutData has none of any bytes ahead of all data, not even of none.
func TestReadOfFixupsWithoutData(t *testing.T) {
	for _, text := range []string{"", "c403 54 02", "c400 54 02 c400 54 02", "00 01", "50", "c4", "00", "d403 54 02", "c403 9c 02", "c7ff"} {
		wantWrong(t, "ahead of data: "+text, wrapped(slices.Concat(twoSegs, []row{{0x9c, text}, {0xa0, inFirst}})...), api.ErrForm)
		wantWrong(t, "alone: "+text, wrapped(row{0x9c, text}), api.ErrForm)
	}
	b := written(row{0x80, "00"}, row{0x9c, "c403 54 02"}, row{0x8a, "00"})
	b[len(b)-6]++
	wantWrong(t, "bent ones", b, api.ErrSum)
}

func TestReadOfThreads(t *testing.T) {
	// The frame 1 is segment 2, the target 3 is segment 1.
	told := "41 02 03 01"
	meant := "c403 9f c405 9b 0700"
	l := []api.Fixup{{At: 3, Loc: 1, FrameN: 2, N: 1}, {At: 5, Loc: 1, FrameN: 2, N: 1, Disp: 7}}
	for _, c := range []struct {
		what string
		rows []row
		want api.Module
	}{
		{"in one record", []row{{0xa0, inFirst}, {0x9c, told + meant}}, two(eight(1, l...))},
		{"in two", []row{{0xa0, inFirst}, {0x9c, told}, {0x9c, meant}}, two(eight(1, l...))},
		{"each in its own", []row{{0xa0, inFirst}, {0x9c, "41 02"}, {0x9c, "03 01"}, {0x9c, meant}}, two(eight(1, l...))},
		{"of other data", []row{{0xa0, inFirst}, {0x9c, told}, {0xa0, inSecond}, {0x9c, meant}}, two(eight(1), eight(2, l...))},
		{"of both", []row{{0xa0, inFirst}, {0x9c, told + meant}, {0xa0, inSecond}, {0x9c, ""}, {0x9c, meant}}, two(eight(1, l...), eight(2, l...))},
		{"told anew", []row{{0xa0, inFirst}, {0x9c, "41 01 03 02"}, {0xa0, inSecond}, {0x9c, told + meant}}, two(eight(1), eight(2, l...))},
		{"told anew later", []row{{0xa0, inFirst}, {0x9c, told + meant}, {0x9c, "41 01 03 02"}}, two(eight(1, l...))},
		{"of data that stand many times", []row{{0xa0, inFirst}, {0x9c, told}, {0xa2, "02 0000 0100 0000 08 6162636465666768"}, {0x9c, meant}}, two(eight(1), eight(2, l...))},
	} {
		b := wrapped(slices.Concat(twoSegs, c.rows)...)
		wantRead(t, c.what, b, c.want, len(b))
	}
	for what, rows := range map[string][]row{
		"none told":          {{0x9c, meant}},
		"the frame alone":    {{0x9c, "41 02"}, {0x9c, meant}},
		"the target alone":   {{0x9c, "03 01"}, {0x9c, meant}},
		"others":             {{0x9c, "40 02 01 01"}, {0x9c, meant}},
		"too late":           {{0x9c, meant}, {0x9c, told}},
		"late in the record": {{0x9c, meant + told}},
	} {
		wantWrong(t, what, wrapped(slices.Concat(twoSegs, []row{{0xa0, inFirst}}, rows)...), api.ErrIndex)
	}
	wantWrong(t, "a thread that may not be", wrapped(slices.Concat(twoSegs, []row{{0xa0, inFirst}, {0x9c, "61 02"}})...), api.ErrForm)
}

// ended is a module of two segments with data and two threads, whose end is so.
func ended(text string) []byte {
	return slices.Concat(written(row{0x80, "00"}), written(twoSegs...), written(row{0xa0, inFirst}, row{0x9c, "41 02 03 01"}, row{0x8a, text}))
}

func TestReadOfEachEnd(t *testing.T) {
	for head := range 256 {
		for _, c := range []struct {
			text  string
			start api.Fixup
		}{{"", api.Fixup{}}, {"50 02 0700", api.Fixup{Frame: 5, N: 2, Disp: 7}}, {"04 01 02", api.Fixup{FrameN: 1, N: 2}}} {
			b := ended(fmt.Sprintf("%02x", head) + c.text)
			m := two(eight(1))
			m.Main = head > 127
			switch {
			case head%128 == 0 && c.text == "":
				wantRead(t, fmt.Sprint("end ", head), b, m, len(b))
			case head%128 == 0x41 && c.text != "":
				m.Is, m.Start = true, c.start
				wantRead(t, fmt.Sprint("end ", head), b, m, len(b))
			case head%128 == 0x41:
				wantWrong(t, fmt.Sprint("end ", head), b, api.ErrShort)
			default:
				wantWrong(t, fmt.Sprint("end ", head), b, api.ErrForm)
			}
		}
	}
}

func TestReadOfBeginnings(t *testing.T) {
	for text, f := range map[string]api.Fixup{
		"00 01 02 0700":      {FrameN: 1, N: 2, Disp: 7},
		"04 02 01":           {FrameN: 2, N: 1},
		"54 02":              {Frame: 5, N: 2},
		"50 02 ffff":         {Frame: 5, N: 2, Disp: 0xffff},
		"50 02 0000":         {Frame: 5, N: 2},
		"04 8002 8001":       {FrameN: 2, N: 1},
		"94 02":              {FrameN: 2, N: 2},
		"9f":                 {FrameN: 2, N: 1},
		"9b 0900":            {FrameN: 2, N: 1, Disp: 9},
		"5f":                 {Frame: 5, N: 1},
		"0f 01":              {FrameN: 1, N: 1},
		"0b 01 0100":         {FrameN: 1, N: 1, Disp: 1},
		"0b 8001 0100":       {FrameN: 1, N: 1, Disp: 1},
		"00 8002 8001 feff ": {FrameN: 2, N: 1, Disp: 0xfffe},
	} {
		for _, head := range []string{"41", "c1"} {
			m := two(eight(1))
			m.Main, m.Is, m.Start = head == "c1", true, f
			b := ended(head + text)
			wantRead(t, "it begins "+text, b, m, len(b))
			body := told(text)
			for many := range body {
				wantWrong(t, "it begins, cut off, "+text, ended(head+hex.EncodeToString(body[:many])), api.ErrShort)
			}
			for _, more := range []string{"00", "01", "50", "51", "00 01", "41 02", "03 01", "c0", "c000 54 01", "ff", "ffffffffffffffff", strings.Repeat("00", 3900)} {
				wantWrong(t, "it begins "+text+", and more "+more[:2], ended(head+text+more), api.ErrForm)
			}
		}
	}
	for what, c := range map[string]struct {
		text string
		e    api.Errno
	}{
		"a frame's thread that is not told":    {"94 02", api.ErrIndex},
		"a target's":                           {"5c", api.ErrIndex},
		"a frame that there is not":            {"04 03 01", api.ErrIndex},
		"a target that there is not":           {"54 03", api.ErrIndex},
		"a group that there is not":            {"55 01", api.ErrIndex},
		"a name that there is not":             {"56 01", api.ErrIndex},
		"here":                                 {"44 01", api.ErrForm},
		"here, at what there is not":           {"44 03", api.ErrIndex},
		"frame 3":                              {"34 01", api.ErrForm},
		"frame 6":                              {"64 01", api.ErrForm},
		"target 3":                             {"57 01", api.ErrForm},
		"target 0":                             {"54 00", api.ErrForm},
		"frame 0":                              {"04 00 01", api.ErrForm},
		"a thread that is not told, and short": {"84", api.ErrIndex},
	} {
		if strings.Contains(what, "thread") || what == "a target's" {
			b := slices.Concat(written(row{0x80, "00"}), written(twoSegs...), written(row{0x8a, "41" + c.text}))
			wantWrong(t, what, b, c.e)
			continue
		}
		wantWrong(t, what, ended("41"+c.text), c.e)
	}
}

// TestReadOfWhatIsBehindAnEnd has bytes left in one that tells no beginning.
func TestReadOfWhatIsBehindAnEnd(t *testing.T) {
	for _, head := range []string{"00", "80"} {
		for _, more := range []string{"00", "01", "50", "54 01", "ff", strings.Repeat("00", 3999)} {
			wantWrong(t, "bytes behind an end", ended(head+more), api.ErrForm)
		}
	}
}

// TestReadEndsAtTheEnd has a second module behind the first one: it counts for nothing.
func TestReadEndsAtTheEnd(t *testing.T) {
	first := wrapped(row{0x96, "0141"})
	for _, more := range [][]byte{written(sampleRows...), wrapped(row{0x96, "0141"}), written(row{0x96, "0142"}, row{0x8a, "00"}), written(row{0x8a, "80"}), told("9c 0000"), written(row{0xf1, "00"})} {
		wantRead(t, "two modules", slices.Concat(first, more), api.Module{Names: []string{"A"}}, len(first))
	}
}

// bigger is a record of which there may be so many, each telling some.
type bigger struct {
	what string
	row  row
	each int
	most int
}

var biggers = []bigger{
	{"segments", row{0x98, "20 0800 00 00 00"}, 1, 64},
	{"groups", row{0x9a, "01"}, 1, 64},
	{"names", row{0x96, "0141"}, 1, 256},
	{"names by four", row{0x96, "0141 0142 0143 00"}, 4, 256},
	{"all names at once", row{0x96, strings.Repeat("00", 256)}, 256, 256},
	{"names taken", row{0x8c, "0141 00"}, 1, 256},
	{"names taken by two", row{0x8c, "0141 00 0142 00"}, 2, 256},
	{"what may be made", row{0xb0, "0141 00 62 05 0142 00 61 01 02"}, 2, 256},
	{"names given", row{0x90, "00 00 0000 0141 0000 00"}, 1, 256},
	{"names given by two", row{0x90, "00 00 0000 0141 0000 00 0142 0000 00"}, 2, 256},
	{"data", row{0xa0, "01 0000 07"}, 1, 512},
	{"data that stand many times", row{0xa2, "01 0000 0300 0000 01 07"}, 1, 512},
}

func TestReadOfMany(t *testing.T) {
	for _, c := range biggers {
		rows := []row{{0x80, "00"}}
		if c.row.kind != 0x98 {
			rows = append(rows, row{0x98, "20 0800 00 00 00"})
		}
		if c.row.kind != 0x96 {
			rows = append(rows, row{0x96, "0141"})
		}
		rows = append(rows, slices.Repeat([]row{c.row}, c.most/c.each)...)
		full := written(rows...)
		b := slices.Concat(full, written(row{0x8a, "00"}))
		m, n, e := readModel(b)
		if e != api.OK {
			t.Fatalf("%s: the model tells %d", c.what, e)
		}
		wantRead(t, c.what, b, m, n)
		one := slices.Concat(full, written(c.row))
		// As soon as it is so, nothing behind it is asked for.
		for _, more := range [][]byte{nil, {0x80}, written(row{0x8a, "00"}), written(row{0x8a, "55"}), written(row{0x80, "00"}), told("88 0000"), written(c.row)} {
			wantWrong(t, c.what, slices.Concat(one, more), api.ErrBig)
		}
		// What is wrong with a record itself is told ahead of that.
		bent := written(c.row)
		bent[3] ^= 0x10
		wantWrong(t, c.what+", bent", slices.Concat(full, bent), api.ErrSum)
		wantWrong(t, c.what+", cut off", one[:len(one)-1], api.ErrShort)
		wantWrong(t, c.what+", with another error", slices.Concat(full, written(row{0x96, strings.Repeat("00", 257) + "01"})), api.ErrShort)
	}
}

// TestReadOfManyMixed has what is taken and what may be made counted together, and data with those that stand many times.
func TestReadOfManyMixed(t *testing.T) {
	taken := slices.Repeat([]row{{0x8c, "0141 00"}}, 128)
	made := slices.Repeat([]row{{0xb0, "0141 00 62 05"}}, 128)
	b := wrapped(slices.Concat(taken, made)...)
	m, n, e := readModel(b)
	if e != api.OK || len(m.Exts) != 256 {
		t.Fatalf("the model tells %d", e)
	}
	wantRead(t, "taken and made", b, m, n)
	wantWrong(t, "taken and made, and one more", wrapped(slices.Concat(taken, made, made[:1])...), api.ErrBig)
	seg := []row{{0x98, "20 0800 00 00 00"}}
	laid := slices.Repeat([]row{{0xa0, "01 0000 07"}, {0x9c, ""}}, 256)
	spread := slices.Repeat([]row{{0xa2, "01 0000 0300 0000 01 07"}}, 256)
	b = wrapped(slices.Concat(seg, laid, spread)...)
	m, n, e = readModel(b)
	if e != api.OK || len(m.Datas) != 512 {
		t.Fatalf("the model tells %d", e)
	}
	wantRead(t, "data of both kinds", b, m, n)
	wantWrong(t, "data of both kinds, and one more", wrapped(slices.Concat(seg, laid, spread, spread[:1])...), api.ErrBig)
	// Remarks are as many as come.
	b = wrapped(slices.Repeat([]row{{0x88, "0102 41"}}, 3000)...)
	wantRead(t, "remarks", b, api.Module{Notes: slices.Repeat([]api.Comment{{Flags: 1, Class: 2, Text: "A"}}, 3000)}, len(b))
	b = wrapped(row{0x88, "0102" + strings.Repeat("41", 3998)})
	wantRead(t, "a long remark", b, api.Module{Notes: []api.Comment{{Flags: 1, Class: 2, Text: strings.Repeat("A", 3998)}}}, len(b))
}

// TestReadTellsCheckBehindTheEnd has what only Check finds, and something wrong behind it, that is told ahead.
func TestReadTellsCheckBehindTheEnd(t *testing.T) {
	for what, c := range map[string]struct {
		row row
		e   api.Errno
	}{
		"a segment's name":       {row{0x98, "20 0800 02 00 00"}, api.ErrIndex},
		"a segment's class":      {row{0x98, "20 0800 00 02 00"}, api.ErrIndex},
		"a segment's overlay":    {row{0x98, "20 0800 00 00 ffff"}, api.ErrIndex},
		"a group's name":         {row{0x9a, "02"}, api.ErrIndex},
		"a group's nameless":     {row{0x9a, "00"}, api.ErrIndex},
		"a group's segment":      {row{0x9a, "01 ff03"}, api.ErrIndex},
		"a group's segment 0":    {row{0x9a, "01 ff01 ff00"}, api.ErrIndex},
		"a given name's group":   {row{0x90, "01 00 0000 0141 0000 00"}, api.ErrIndex},
		"a given name's segment": {row{0x90, "00 03 0141 0000 00"}, api.ErrIndex},
		"a data's segment":       {row{0xa0, "03 0000 41"}, api.ErrIndex},
		"data behind it":         {row{0xa0, "01 0800 41"}, api.ErrForm},
		"a fixup's frame":        {row{0x9c, "c403 04 03 01"}, api.ErrIndex},
		"a fixup's target":       {row{0x9c, "c403 56 01"}, api.ErrIndex},
	} {
		rows := slices.Concat([]row{{0x80, "00"}, {0x96, "0141"}}, twoSegs, []row{{0xa0, inFirst}, c.row})
		b := written(rows...)
		wantWrong(t, what, slices.Concat(b, written(row{0x8a, "00"})), c.e)
		wantWrong(t, what+", without an end", b, api.ErrShort)
		wantWrong(t, what+", and bent", slices.Concat(b, told("88 0300 00 00 76")), api.ErrSum)
		wantWrong(t, what+", and an end that may not be", slices.Concat(b, written(row{0x8a, ""})), api.ErrShort)
		wantWrong(t, what+", and a short end", slices.Concat(b, written(row{0x8a, "41 54"})), api.ErrShort)
		many := written(slices.Repeat([]row{{0x98, "20 0800 00 00 00"}}, 63)...)
		wantWrong(t, what+", and too many", slices.Concat(b, many, written(row{0x8a, "00"})), api.ErrBig)
	}
}
