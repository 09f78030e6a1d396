package data

import (
	"bytes"
	"testing"

	"hansom/api"
)

func TestGetByHand(t *testing.T) {
	wantGot(t, told(t, "01 0500 07"), 1, 5, []byte{7})
	wantGot(t, told(t, "02 3412 b83412"), 2, 0x1234, []byte{0xb8, 0x34, 0x12})
	wantGot(t, told(t, "7f ff00 4142"), 127, 255, []byte("AB"))
	wantGot(t, told(t, "8080 00ff 4142"), 128, 0xff00, []byte("AB"))
	wantGot(t, told(t, "ffff ffff ff"), 32767, 65535, []byte{255})
	wantGot(t, told(t, "01 0000 00"), 1, 0, []byte{0})
	wantGot(t, told(t, "01 feff 0000"), 1, 65534, []byte{0, 0})
	// Two bytes where one would do.
	wantGot(t, told(t, "8001 0500 07"), 1, 5, []byte{7})
	wantGot(t, told(t, "807f 0500 8080"), 127, 5, []byte{0x80, 0x80})
	for _, c := range inds {
		wantGot(t, told(t, c.text+" 0b0a 0908"), c.n, 0x0a0b, []byte{9, 8})
	}
}

// TestGetOfPut is example 1.
func TestGetOfPut(t *testing.T) {
	d := drawer(43)
	for range 20000 {
		one := d.data()
		r, ok := Put(one)
		if !ok {
			continue
		}
		wantGot(t, r.Body, one.Seg, int(one.Off), one.Bytes)
	}
}

// TestPutOfGet goes the other way: what was read is written as it was, but for indices that were longer than they need be.
func TestPutOfGet(t *testing.T) {
	d := drawer(47)
	for range 20000 {
		b := d.bytes(d.below(12))
		got, e := Get(b)
		if e != api.OK || b[0] == 0x80 && b[1] < 0x80 {
			continue
		}
		wantMay(t, got, true)
		wantPut(t, got, b)
	}
}

func TestGetOfEachSegment(t *testing.T) {
	for n := range 32768 {
		long := []byte{byte(n/256 + 128), byte(n % 256), 3, 2, 7}
		if n == 0 {
			wantWrong(t, long, api.ErrForm)
			continue
		}
		wantGot(t, long, n, 0x0203, []byte{7})
		wantGot(t, body(n, 0x0203, []byte{7}), n, 0x0203, []byte{7})
	}
}

func TestGetOfEachOffset(t *testing.T) {
	for off := range 65536 {
		wantGot(t, body(5, off, []byte{6}), 5, off, []byte{6})
		if off == 65535 {
			wantWrong(t, body(5, off, []byte{6, 7}), api.ErrForm)
			continue
		}
		wantGot(t, body(5, off, []byte{6, 7}), 5, off, []byte{6, 7})
	}
}

func TestGetOfEachCount(t *testing.T) {
	d := drawer(53)
	b := d.bytes(1100)
	for many := range 1101 {
		for _, seg := range []int{1, 32767} {
			if many < 1 || many > 1024 {
				wantWrong(t, body(seg, 0x4321, b[:many]), api.ErrForm)
				continue
			}
			wantGot(t, body(seg, 0x4321, b[:many]), seg, 0x4321, b[:many])
		}
	}
	for _, many := range []int{2048, 4000, 65535, 65536, 65537, 66561, 1 << 20} {
		wantWrong(t, body(1, 0, make([]byte, many)), api.ErrForm)
	}
}

// TestGetWithBytesMissing cuts records off ahead of each of their bytes: till the offset is whole, bytes are missing.
func TestGetWithBytesMissing(t *testing.T) {
	for _, c := range []struct {
		text string
		head int
	}{{"01 0500 07", 3}, {"8080 0500 07 08", 4}, {"ffff ffff ff", 4}, {"8001 0000 00", 4}, {"00 0500 07", 3}, {"8000 ffff 0708", 4}} {
		b := told(t, c.text)
		for many := range c.head {
			wantWrong(t, b[:many], api.ErrShort)
		}
		wantWrong(t, b[:c.head], api.ErrForm)
	}
	wantWrong(t, nil, api.ErrShort)
	wantWrong(t, []byte{}, api.ErrShort)
	for v := range 256 {
		wantWrong(t, []byte{byte(v)}, api.ErrShort)
		wantWrong(t, []byte{byte(v), 0}, api.ErrShort)
		wantWrong(t, []byte{byte(v), 1}, api.ErrShort)
		three := api.ErrForm
		if v > 127 {
			three = api.ErrShort
		}
		wantWrong(t, []byte{byte(v), 1, 1}, three)
	}
}

func TestGetOfWhatMayNotBe(t *testing.T) {
	for _, text := range []string{
		"00 0500 07", "8000 0500 07", "00 0000 00", "00 ffff 0708", "00 0500", "8000 0500",
		"01 0500", "7f 0000", "8080 0500", "ffff ffff", "01 ffff",
		"01 ffff 0708", "01 feff 070809", "ffff ffff 0000", "8001 ffff 0000",
	} {
		wantWrong(t, told(t, text), api.ErrForm)
	}
	wantWrong(t, body(1, 0, make([]byte, 1025)), api.ErrForm)
	wantWrong(t, body(0, 0, make([]byte, 1025)), api.ErrForm)
	wantWrong(t, body(1, 65535, make([]byte, 1025)), api.ErrForm)
}

func TestGetOfEnds(t *testing.T) {
	for many := 1; many <= 1024; many++ {
		b := bytes.Repeat([]byte{0x5a}, many)
		wantGot(t, body(9, 65536-many, b), 9, 65536-many, b)
		wantGot(t, body(9, 65535-many, b), 9, 65535-many, b)
		if many > 1 {
			wantWrong(t, body(9, 65537-many, b), api.ErrForm)
		}
	}
}

// getModel reads bytes by their numbers; it holds nothing of what the package stands on.
func getModel(b []byte) (api.Data, api.Errno) {
	head := 3
	if len(b) > 0 && b[0] > 127 {
		head = 4
	}
	if len(b) < head {
		return api.Data{}, api.ErrShort
	}
	d := api.Data{Seg: int(b[0]), Off: uint16(b[head-2]) + 256*uint16(b[head-1]), Bytes: b[head:]}
	if head == 4 {
		d.Seg = (int(b[0])-128)*256 + int(b[1])
	}
	if !mayModel(d) {
		return api.Data{}, api.ErrForm
	}
	return d, api.OK
}

// TestGetOfAllShortBytes has every three bytes, and with few of them four, five and six.
func TestGetOfAllShortBytes(t *testing.T) {
	hold := func(b []byte) {
		t.Helper()
		want, e := getModel(b)
		if e != api.OK {
			wantWrong(t, b, e)
			return
		}
		wantGot(t, b, want.Seg, int(want.Off), want.Bytes)
	}
	few := []byte{0, 1, 0x7f, 0x80, 0xfe, 0xff}
	for a := range 256 {
		for b := range 256 {
			hold([]byte{byte(a), byte(b)})
			hold([]byte{byte(a), byte(b), 0xff, 7})
			hold([]byte{byte(a), byte(b), 0xff, 0xff, 7, 8})
		}
	}
	for many := range 7 {
		b := make([]byte, many)
		all := 1
		for range many {
			all *= len(few)
		}
		for n := range all {
			for i := range b {
				b[i] = few[n%len(few)]
				n /= len(few)
			}
			hold(b)
		}
	}
}

func TestGetBesideTheModel(t *testing.T) {
	d := drawer(59)
	for range 20000 {
		b := d.bytes(d.below(1035))
		if d.below(2) == 0 {
			b = b[:min(len(b), d.below(9))]
		}
		if len(b) > 3 && d.below(3) == 0 {
			b[1], b[2], b[3] = 0xff, 0xff, 0xfb
		}
		want, e := getModel(b)
		if e != api.OK {
			wantWrong(t, b, e)
			continue
		}
		wantGot(t, b, want.Seg, int(want.Off), want.Bytes)
	}
}
