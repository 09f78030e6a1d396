package fixup

import (
	"bytes"
	"slices"
	"testing"

	"hansom/api"
)

// spoil is what a caller does to bytes, behind their end too; spoilFixups, to fixups.
func spoil(b []byte) {
	b = b[:cap(b)]
	for i := range b {
		b[i] ^= 0xff
	}
}

func spoilFixups(l []api.Fixup) {
	l = l[:cap(l)]
	for i := range l {
		l[i].At += 7
		l[i].N++
		l[i].Self = !l[i].Self
	}
}

// roomy is bytes with more of them behind their end, that are none of theirs.
func roomy(b []byte) []byte {
	more := append(slices.Clone(b), "\x54\x01\x00\xc4\x00\x54\x01behind"...)
	return more[:len(b)]
}

// roomyFixups is fixups with more of them behind their end, that are none of theirs.
func roomyFixups(l []api.Fixup) []api.Fixup {
	more := append(slices.Clone(l), plain, api.Fixup{At: -3, N: 8}, plain)
	return more[:len(l)]
}

// lists are fixups, in order and out of it, and some that may not be.
func lists() [][]api.Fixup {
	d := drawer(109)
	l := [][]api.Fixup{{}, {plain}, at(3, 1, 2), at(1, 2, 3), at(5, 5, 5), {{}, plain, {At: -1, N: -1}}}
	for range 40 {
		one := make([]api.Fixup, d.below(20))
		for i := range one {
			one[i] = d.any()
		}
		l = append(l, one)
	}
	return l
}

func TestFixupsAreNotChanged(t *testing.T) {
	for _, l := range lists() {
		given := roomyFixups(l)
		whole := slices.Clone(given[:cap(given)])
		Record(given)
		Sorted(given)
		if !slices.Equal(given, l) || !slices.Equal(given[:cap(given)], whole) {
			t.Errorf("%+v is %+v now", whole, given[:cap(given)])
		}
	}
}

func TestBytesAreNotChanged(t *testing.T) {
	d := drawer(113)
	for i := range 2000 {
		var b []byte
		for range i % 6 {
			b = append(b, d.subrecord()...)
		}
		given := roomy(b)
		whole := slices.Clone(given[:cap(given)])
		was := all
		Get(given, 1030, was)
		if !bytes.Equal(given, b) || !bytes.Equal(given[:cap(given)], whole) || was != all {
			t.Errorf("% x is % x now", b, given[:cap(given)])
		}
	}
}

// TestNothingBehindCounts has room behind what is handed in: what stands there is none of theirs.
func TestNothingBehindCounts(t *testing.T) {
	for _, text := range []string{"c4", "c400", "c400 54", "c400 54 80", "c400 50 01", "c400 50 01 00", "00", "40", "48 80"} {
		wantWrong(t, roomy(told(t, text)), 1024, all, api.ErrShort)
	}
	wantGot(t, roomy(nil), 1024, all, nil, all)
	wantGot(t, roomy(body(plain)), 1024, all, []api.Fixup{plain}, all)
	wantGot(t, roomy([]byte{0x51}), 1024, no, nil, set(no, true, 1, api.Thread{Is: true, By: 4}))
	wantRecord(t, roomyFixups(nil), nil)
	wantRecord(t, roomyFixups([]api.Fixup{plain}), body(plain))
	wantSorted(t, roomyFixups(nil), nil)
	wantSorted(t, roomyFixups(at(2, 1)), pick(at(2, 1), 1, 0))
}

// TestWhatIsAnsweredStays has what was handed in changed behind the call.
func TestWhatIsAnsweredStays(t *testing.T) {
	for _, l := range lists() {
		given := roomyFixups(l)
		sorted, r := Sorted(given), Record(given)
		wasSorted, wasBody := slices.Clone(sorted), slices.Clone(r.Body)
		spoilFixups(given)
		if !slices.Equal(sorted, wasSorted) || !bytes.Equal(r.Body, wasBody) || r.Kind != 0x9c {
			t.Errorf("of %+v what was answered is another now", l)
		}
	}
	record := told(t, "51 06 812c c42c 9e c52c 52 03 0900")
	l, behind, e := Get(record, 1024, no)
	spoil(record)
	want := []api.Fixup{{At: 44, Loc: 1, Frame: 4, Target: 1, N: 300}, {At: 300, Loc: 1, Frame: 5, Target: 2, N: 3, Disp: 9}}
	if e != api.OK || !slices.Equal(l, want) || behind != set(set(no, true, 1, api.Thread{Is: true, By: 4}), false, 2, api.Thread{Is: true, By: 1, N: 300}) {
		t.Errorf("what was read is %+v, %v, %d now", l, behind, e)
	}
}

// TestWhatIsAnsweredIsTheCallers spoils answers: what was handed in and other answers stay.
func TestWhatIsAnsweredIsTheCallers(t *testing.T) {
	for _, l := range lists() {
		was := slices.Clone(l)
		second := Sorted(l)
		kept := slices.Clone(second)
		spoilFixups(Sorted(l))
		spoil(Record(l).Body)
		if !slices.Equal(l, was) || !slices.Equal(second, kept) {
			t.Errorf("%+v is %+v now, or in another order", was, l)
		}
		wantSorted(t, l, kept)
		if len(l) > 0 {
			b := Put(l[0])
			again := slices.Clone(b)
			spoil(b)
			wantPut(t, l[0], again)
		}
	}
	record := body(plain, plain)
	first, _, _ := Get(record, 2, no)
	second, _, _ := Get(record, 2, no)
	spoilFixups(first)
	if !slices.Equal(second, []api.Fixup{plain, plain}) || !bytes.Equal(record, body(plain, plain)) {
		t.Error("other fixups are others now, or the record is")
	}
}

func TestTheSameAgain(t *testing.T) {
	d := drawer(127)
	for range 2000 {
		f := d.any()
		wantMay(t, f, 1024, May(f, 1024))
		wantPut(t, f, Put(f))
		b := d.bytes(d.below(20))
		one, behind, e := Get(b, 1024, all)
		again, more, err := Get(b, 1024, all)
		if e != err || behind != more || !slices.Equal(one, again) {
			t.Fatal("Get tells others")
		}
	}
}
