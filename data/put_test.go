package data

import (
	"bytes"
	"testing"

	"hansom/api"
)

func TestPutByHand(t *testing.T) {
	for _, c := range []struct {
		d    api.Data
		text string
	}{
		{api.Data{Seg: 1, Off: 5, Bytes: []byte{7}}, "01 0500 07"},
		{api.Data{Seg: 1, Off: 0, Bytes: []byte{0}}, "01 0000 00"},
		{api.Data{Seg: 2, Off: 0x1234, Bytes: []byte{0xb8, 0x34, 0x12}}, "02 3412 b83412"},
		{api.Data{Seg: 127, Off: 0x00ff, Bytes: []byte("AB")}, "7f ff00 4142"},
		{api.Data{Seg: 128, Off: 0xff00, Bytes: []byte("AB")}, "8080 00ff 4142"},
		{api.Data{Seg: 300, Off: 1, Bytes: []byte{0x80, 0xff}}, "812c 0100 80ff"},
		{api.Data{Seg: 32767, Off: 0xffff, Bytes: []byte{0xff}}, "ffff ffff ff"},
		{api.Data{Seg: 1, Off: 0xfffe, Bytes: []byte{1, 2}}, "01 feff 0102"},
	} {
		wantPut(t, c.d, told(t, c.text))
	}
}

func TestPutOfEachIndexByHand(t *testing.T) {
	for _, c := range inds {
		wantPut(t, api.Data{Seg: c.n, Off: 0x0a0b, Bytes: []byte{9, 8}}, told(t, c.text+" 0b0a 0908"))
	}
}

func TestPutOfEachSegment(t *testing.T) {
	for n := 1; n <= 32767; n++ {
		wantPut(t, api.Data{Seg: n, Off: 300, Bytes: []byte{6}}, body(n, 300, []byte{6}))
	}
	for _, n := range noSegments {
		wantNoPut(t, api.Data{Seg: n, Off: 5, Bytes: []byte{7}})
	}
}

func TestPutOfEachOffset(t *testing.T) {
	for off := range 65536 {
		wantPut(t, api.Data{Seg: 200, Off: uint16(off), Bytes: []byte{6}}, body(200, off, []byte{6}))
		two := api.Data{Seg: 1, Off: uint16(off), Bytes: []byte{6, 7}}
		if off == 65535 {
			wantNoPut(t, two)
			continue
		}
		wantPut(t, two, body(1, off, []byte{6, 7}))
	}
}

func TestPutOfEachCount(t *testing.T) {
	d := drawer(31)
	b := d.bytes(1100)
	for many := range 1101 {
		for _, seg := range []int{1, 128} {
			one := api.Data{Seg: seg, Off: 0x4321, Bytes: b[:many]}
			if many < 1 || many > 1024 {
				wantNoPut(t, one)
				continue
			}
			wantPut(t, one, body(seg, 0x4321, b[:many]))
		}
	}
	wantNoPut(t, api.Data{Seg: 1})
	wantNoPut(t, api.Data{})
}

func TestPutOfWhatEndsBehind(t *testing.T) {
	wantPut(t, api.Data{Seg: 1, Off: 64512, Bytes: make([]byte, 1024)}, body(1, 64512, make([]byte, 1024)))
	wantNoPut(t, api.Data{Seg: 1, Off: 64513, Bytes: make([]byte, 1024)})
	wantPut(t, api.Data{Seg: 1, Off: 64513, Bytes: make([]byte, 1023)}, body(1, 64513, make([]byte, 1023)))
	wantNoPut(t, api.Data{Seg: 1, Off: 65535, Bytes: []byte{1, 2}})
	wantNoPut(t, api.Data{Seg: 1, Off: 65535, Bytes: make([]byte, 1024)})
}

// TestPutTellsNoFixups has the same record of data with fixups, whatever they are, and without.
func TestPutTellsNoFixups(t *testing.T) {
	d := drawer(37)
	for range 2000 {
		one := d.data()
		r, ok := Put(one)
		one.Fixups = nil
		bare, is := Put(one)
		if ok != is || r.Kind != bare.Kind || !bytes.Equal(r.Body, bare.Body) {
			t.Fatalf("with fixups it is %x, % x, %v; without, %x, % x, %v", r.Kind, begin(r.Body), ok, bare.Kind, begin(bare.Body), is)
		}
	}
	wantPut(t, api.Data{Seg: 1, Off: 5, Bytes: []byte{7}, Fixups: []api.Fixup{{At: -9, Loc: 88, N: -1}, {Loc: 1, Frame: 5, N: 1}}}, told(t, "01 0500 07"))
	wantNoPut(t, api.Data{Seg: 1, Off: 5, Fixups: []api.Fixup{{Loc: 1, Frame: 5, N: 1}}})
}

func TestPutBesideTheModel(t *testing.T) {
	d := drawer(41)
	for range 20000 {
		one := d.data()
		if !mayModel(one) {
			wantNoPut(t, one)
			continue
		}
		wantPut(t, one, body(one.Seg, int(one.Off), one.Bytes))
	}
}
