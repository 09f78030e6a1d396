package data

import (
	"bytes"
	"slices"
	"testing"

	"hansom/api"
)

// spoil is what a caller does to bytes, behind their end too.
func spoil(b []byte) {
	b = b[:cap(b)]
	for i := range b {
		b[i] ^= 0xff
	}
}

// roomy is bytes with more of them behind their end, that are none of theirs.
func roomy(b []byte) []byte {
	more := append(slices.Clone(b), "\x01\x02\x80\x03behind"...)
	return more[:len(b)]
}

// TestWhatIsHandedInIsNotChanged holds each call's bytes, and what is behind their end, against what they were.
func TestWhatIsHandedInIsNotChanged(t *testing.T) {
	d := drawer(97)
	for _, b := range [][]byte{{}, {1}, {0x80}, {1, 5, 0}, {1, 5, 0, 7}, {0x80, 0x80, 5, 0, 7, 8}, {0, 5, 0, 7}, {1, 0xff, 0xff, 7, 8}, d.bytes(1024), d.bytes(1027), d.bytes(1028), d.bytes(3000)} {
		given := roomy(b)
		whole := slices.Clone(given[:cap(given)])
		fixups := []api.Fixup{{At: 5, Loc: 1, N: 1}, {At: -1, Loc: 9}, {Disp: 3}}
		one := api.Data{Seg: 300, Off: 5, Bytes: given, Fixups: fixups[:2]}
		May(one)
		Put(one)
		Get(given)
		Cut(1, 5, given)
		if !bytes.Equal(given, b) || !bytes.Equal(given[:cap(given)], whole) {
			t.Errorf("% x, of %d, is % x now", begin(b), len(b), begin(given))
		}
		if !slices.Equal(fixups, []api.Fixup{{At: 5, Loc: 1, N: 1}, {At: -1, Loc: 9}, {Disp: 3}}) {
			t.Errorf("the fixups are %+v now", fixups)
		}
	}
}

// TestNothingBehindCounts has bytes with room behind them: what stands there is none of theirs.
func TestNothingBehindCounts(t *testing.T) {
	for _, b := range [][]byte{{}, {1}, {1, 5}, {0x80}, {0x80, 0x80}, {0x80, 0x80, 5}} {
		wantWrong(t, roomy(b), api.ErrShort)
	}
	wantWrong(t, roomy([]byte{1, 5, 0}), api.ErrForm)
	wantGot(t, roomy([]byte{1, 5, 0, 7}), 1, 5, []byte{7})
	wantGot(t, roomy([]byte{1, 0xff, 0xff, 7}), 1, 65535, []byte{7})
	wantMay(t, api.Data{Seg: 1, Bytes: roomy(nil)}, false)
	wantMay(t, api.Data{Seg: 1, Off: 65535, Bytes: roomy([]byte{7})}, true)
	wantMay(t, api.Data{Seg: 1, Bytes: roomy(make([]byte, 1024))}, true)
	wantPut(t, api.Data{Seg: 1, Off: 5, Bytes: roomy([]byte{7})}, []byte{1, 5, 0, 7})
	wantNoPut(t, api.Data{Seg: 1, Off: 5, Bytes: roomy(nil)})
	wantCut(t, 1, 5, roomy([]byte{7}), []int{5}, [][]byte{{7}})
	wantCut(t, 1, 5, roomy(make([]byte, 1024)), []int{5}, [][]byte{make([]byte, 1024)})
	wantCut(t, 1, 5, roomy(nil), nil, nil)
}

// TestWhatIsAnsweredStays has what was handed in changed behind the call.
func TestWhatIsAnsweredStays(t *testing.T) {
	d := drawer(101)
	b := d.bytes(3000)
	was := slices.Clone(b)
	r, _ := Put(api.Data{Seg: 1, Off: 5, Bytes: b[:1024]})
	got, e := Get(body(1, 5, b[:1024]))
	l := Cut(1, 5, b)
	record := body(300, 5, b[:1024])
	read, _ := Get(record)
	spoil(b)
	spoil(record)
	if !bytes.Equal(r.Body, body(1, 5, was[:1024])) {
		t.Error("the record is another one now")
	}
	if e != api.OK || !is(got, 1, 5, was[:1024]) || !is(read, 300, 5, was[:1024]) {
		t.Error("what was read is another now")
	}
	for i, one := range l {
		if !is(one, 1, 5+i*1024, was[i*1024:min(len(was), i*1024+1024)]) {
			t.Error("data", i, "are others now")
		}
	}
}

// TestWhatIsAnsweredIsTheCallers spoils one answer: neither others nor what was handed in is another then.
func TestWhatIsAnsweredIsTheCallers(t *testing.T) {
	d := drawer(103)
	b := d.bytes(1024)
	was := slices.Clone(b)
	one := api.Data{Seg: 128, Off: 5, Bytes: b}
	record := body(128, 5, was)
	first, _ := Put(one)
	second, _ := Put(one)
	spoil(first.Body)
	if !bytes.Equal(second.Body, record) || !bytes.Equal(b, was) {
		t.Error("another record, or the data, are others now")
	}
	wantPut(t, one, record)
	handed := slices.Clone(record)
	got, _ := Get(handed)
	again, _ := Get(handed)
	spoil(got.Bytes)
	if !is(again, 128, 5, was) || !bytes.Equal(handed, record) {
		t.Error("other data, or the record, are others now")
	}
	wantGot(t, handed, 128, 5, was)
}

// TestPiecesShareNothing spoils each piece, behind its end too: what was handed in and the other pieces stay.
func TestPiecesShareNothing(t *testing.T) {
	d := drawer(107)
	for _, many := range []int{1, 1023, 1024, 1025, 2048, 2049, 5000} {
		b := d.bytes(many)
		was := slices.Clone(b)
		other := Cut(1, 5, b)
		for at := range other {
			l := Cut(1, 5, b)
			spoil(l[at].Bytes)
			_ = append(l[at].Bytes[:0], "other bytes"...)
			for i, one := range l {
				if i != at && !is(one, 1, 5+i*1024, was[i*1024:min(many, i*1024+1024)]) {
					t.Errorf("of %d bytes data %d are others, when %d are spoiled", many, i, at)
				}
			}
			if !bytes.Equal(b, was) {
				t.Fatalf("%d bytes are others, when data %d are spoiled", many, at)
			}
		}
		for i, one := range other {
			if !is(one, 1, 5+i*1024, was[i*1024:min(many, i*1024+1024)]) {
				t.Errorf("of %d bytes data %d, cut ahead, are others", many, i)
			}
		}
	}
}

func TestTheSameAgain(t *testing.T) {
	d := drawer(109)
	for range 1000 {
		one := d.data()
		wantMay(t, one, May(one))
		r, ok := Put(one)
		again, is := Put(one)
		if ok != is || r.Kind != again.Kind || !bytes.Equal(r.Body, again.Body) {
			t.Fatal("Put tells another record")
		}
		b := d.bytes(d.below(9))
		got, e := Get(b)
		if more, err := Get(b); e != err || !same(got, more) {
			t.Fatal("Get tells other data")
		}
		if !slices.EqualFunc(Cut(one.Seg, one.Off, one.Bytes), Cut(one.Seg, one.Off, one.Bytes), same) {
			t.Fatal("Cut tells other data")
		}
	}
}
