package rec

import (
	"bytes"
	"slices"
	"testing"

	"hansom/api"
)

// joined is samples' records, and their bytes, one behind the other.
func joined(l []sample) (records []api.Record, b []byte) {
	for _, s := range l {
		records = append(records, s.r)
		b = append(b, s.b...)
	}
	return records, b
}

func wantAll(t *testing.T, b []byte, want []api.Record) {
	t.Helper()
	got, e := All(b)
	if e != api.OK || !sameRecords(got, want) {
		t.Fatalf("All(%d bytes % x..) is %d records, %d; want %d", len(b), begin(b), len(got), e, len(want))
	}
}

func wantAllError(t *testing.T, b []byte, want api.Errno) {
	t.Helper()
	got, e := All(b)
	if e != want || len(got) != 0 {
		t.Fatalf("All(%d bytes % x..) is %d records, %d; want none, %d", len(b), begin(b), len(got), e, want)
	}
}

func wantBytes(t *testing.T, l []api.Record, want []byte) {
	t.Helper()
	got, e := Bytes(l)
	if e != api.OK || !bytes.Equal(got, want) {
		t.Fatalf("Bytes of %d records is %d bytes % x.., %d; want %d bytes % x..", len(l), len(got), begin(got), e, len(want), begin(want))
	}
}

func TestAllAndBytesOfNone(t *testing.T) {
	wantAll(t, nil, nil)
	wantAll(t, []byte{}, nil)
	wantBytes(t, nil, nil)
	wantBytes(t, []api.Record{}, nil)
}

func TestAllAndBytesOfOne(t *testing.T) {
	for _, s := range samples(t) {
		wantAll(t, s.b, []api.Record{s.r})
		wantBytes(t, []api.Record{s.r}, s.b)
	}
}

func TestAllAndBytesOfMany(t *testing.T) {
	all := samples(t)
	for from := range all {
		for to := from; to <= len(all); to++ {
			records, b := joined(all[from:to])
			wantAll(t, b, records)
			wantBytes(t, records, b)
		}
	}
	slices.Reverse(all)
	records, b := joined(slices.Repeat(all, 20))
	wantAll(t, b, records)
	wantBytes(t, records, b)
}

func TestAllWithoutCheckSums(t *testing.T) {
	records, b := joined(samples(t))
	at := 0
	for _, r := range records {
		at += len(r.Body) + 4
		b[at-1] = 0
	}
	wantAll(t, b, records)
}

// fault is bytes that are no record, and their error; Ends: only where nothing stands behind them.
type fault struct {
	text string
	e    api.Errno
	ends bool
}

// faults are of each error's causes.
var faults = []fault{
	{"80", api.ErrShort, true},
	{"8001", api.ErrShort, true},
	{"800100", api.ErrShort, true},
	{"800200 00", api.ErrShort, true},
	{"80a10f 0000", api.ErrShort, true},
	{"800000", api.ErrForm, false},
	{"000000", api.ErrForm, false},
	{"80a20f", api.ErrBig, false},
	{"80a20f 0000", api.ErrBig, false},
	{"80ffff", api.ErrBig, false},
	{"800100 01", api.ErrSum, false},
	{"800200 4101", api.ErrSum, false},
	{"ff0100 ff", api.ErrSum, false},
}

// few are some samples that are not great.
func few(t *testing.T) []sample { return samples(t)[:6] }

func TestAllWithAnErrorAtEachPlace(t *testing.T) {
	l := few(t)
	for _, f := range faults {
		wrong := told(t, f.text)
		for at := range len(l) + 1 {
			if f.ends && at < len(l) {
				continue
			}
			_, ahead := joined(l[:at])
			_, behind := joined(l[at:])
			wantAllError(t, slices.Concat(ahead, wrong, behind), f.e)
		}
	}
}

func TestAllTellsTheFirstError(t *testing.T) {
	_, between := joined(few(t))
	for _, first := range faults {
		if first.ends {
			continue
		}
		for _, second := range faults {
			a, b := told(t, first.text), told(t, second.text)
			wantAllError(t, slices.Concat(a, b), first.e)
			wantAllError(t, slices.Concat(a, between, b), first.e)
			wantAllError(t, slices.Concat(between, a, between, b), first.e)
		}
	}
}

func TestAllWithBytesMissing(t *testing.T) {
	l := few(t)
	records, b := joined(l)
	ends := map[int]int{0: 0}
	at := 0
	for i, s := range l {
		at += len(s.b)
		ends[at] = i + 1
	}
	for many := range len(b) + 1 {
		if n, whole := ends[many]; whole {
			wantAll(t, b[:many], records[:n])
			continue
		}
		wantAllError(t, b[:many], api.ErrShort)
	}
}

func TestBytesTooGreat(t *testing.T) {
	l := few(t)
	for _, many := range tooGreat {
		great := api.Record{Kind: api.RecLedata, Body: make([]byte, many)}
		for at := range len(l) + 1 {
			records, _ := joined(l)
			records = slices.Insert(records, at, great)
			if got, e := Bytes(records); e != api.ErrBig || len(got) != 0 {
				t.Fatalf("Bytes with %d bytes at %d: %d bytes, %d", many, at, len(got), e)
			}
		}
		if got, e := Bytes([]api.Record{great}); e != api.ErrBig || len(got) != 0 {
			t.Fatalf("Bytes of %d bytes: %d bytes, %d", many, len(got), e)
		}
	}
}

func TestBytesAndBackByAll(t *testing.T) {
	d := drawer(186)
	for many := range 60 {
		var l []api.Record
		var want []byte
		for range many {
			r := api.Record{Kind: d.byte(), Body: d.bytes(int(d.byte()) * int(d.byte()) % (api.MostBody + 1))}
			l = append(l, r)
			want = append(want, Put(r)...)
		}
		wantBytes(t, l, want)
		wantAll(t, want, l)
	}
}

func TestAllAnswersItsOwn(t *testing.T) {
	want, b := joined(samples(t))
	part, whole := roomy(b)
	was := slices.Clone(whole)
	got, _ := All(part)
	if !bytes.Equal(whole, was) {
		t.Fatal("All changed what was handed in")
	}
	for i := range whole {
		whole[i] ^= 0xff
	}
	if !sameRecords(got, want) {
		t.Fatal("what All answered is changed with what was handed in")
	}
	was = slices.Clone(whole)
	// What is put behind one record's bytes stands in no other one.
	for i := range got {
		_ = append(got[i].Body, 0x77, 0x77, 0x77, 0x77, 0x77)
	}
	if !sameRecords(got, want) || !bytes.Equal(whole, was) {
		t.Fatal("records share their bytes' room")
	}
	for i := range got {
		for at := range got[i].Body {
			got[i].Body[at] ^= 0x33
		}
		if i+1 < len(got) && !sameRecords(got[i+1:], want[i+1:]) {
			t.Fatalf("records share their bytes, from %d on", i)
		}
	}
	if !bytes.Equal(whole, was) {
		t.Fatal("what All answered is no memory of its own")
	}
}

func TestBytesAnswersItsOwn(t *testing.T) {
	l, want := joined(samples(t))
	var wholes, were [][]byte
	for i := range l {
		part, whole := roomy(l[i].Body)
		l[i].Body = part
		wholes, were = append(wholes, whole), append(were, slices.Clone(whole))
	}
	kinds := make([]byte, len(l))
	for i, r := range l {
		kinds[i] = r.Kind
	}
	got, _ := Bytes(l)
	for i, r := range l {
		if r.Kind != kinds[i] || len(r.Body)+17 != len(wholes[i]) || !bytes.Equal(wholes[i], were[i]) {
			t.Fatalf("Bytes changed record %d", i)
		}
	}
	for i := range l {
		for at := range wholes[i] {
			wholes[i][at] ^= 0xff
		}
		l[i].Kind++
	}
	if !bytes.Equal(got, want) {
		t.Fatal("what Bytes answered is changed with what was handed in")
	}
	for i := range got {
		got[i] = 0
	}
	for i := range l {
		for at := range were[i] {
			if wholes[i][at] != were[i][at]^0xff {
				t.Fatalf("what Bytes answered shares record %d", i)
			}
		}
	}
}
