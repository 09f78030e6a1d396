package rec

import (
	"bytes"
	"slices"
	"testing"

	"hansom/api"
)

// model is what Get is to answer: the chapter's order of asking, reckoned with whole numbers.
func model(b []byte) (api.Record, int, api.Errno) {
	if len(b) < 3 {
		return api.Record{}, 0, api.ErrShort
	}
	follow := int(b[1]) + 256*int(b[2])
	if follow == 0 {
		return api.Record{}, 0, api.ErrForm
	}
	if follow > 4001 {
		return api.Record{}, 0, api.ErrBig
	}
	if len(b)-3 < follow {
		return api.Record{}, 0, api.ErrShort
	}
	all := 0
	for _, one := range b[:follow+3] {
		all += int(one)
	}
	if b[follow+2] != 0 && all%256 != 0 {
		return api.Record{}, 0, api.ErrSum
	}
	return api.Record{Kind: b[0], Body: slices.Clone(b[3 : follow+2])}, follow + 3, api.OK
}

// begin is what to show of bytes.
func begin(b []byte) []byte { return b[:min(len(b), 12)] }

// wantGet asks Get for an answer; beside an error there is nothing else.
func wantGet(t *testing.T, b []byte, r api.Record, n int, e api.Errno) {
	t.Helper()
	gr, gn, ge := Get(b)
	if ge != e || gn != n || !sameRecord(gr, r) {
		t.Fatalf("Get(%d bytes % x..) is kind %02x, %d bytes % x.., %d, %d; want %02x, %d bytes % x.., %d, %d",
			len(b), begin(b), gr.Kind, len(gr.Body), begin(gr.Body), gn, ge, r.Kind, len(r.Body), begin(r.Body), n, e)
	}
}

// wantError asks Get for an error, and for nothing beside it.
func wantError(t *testing.T, b []byte, e api.Errno) {
	t.Helper()
	wantGet(t, b, api.Record{}, 0, e)
}

// wantModel asks Get for what the model answers.
func wantModel(t *testing.T, b []byte) {
	t.Helper()
	r, n, e := model(b)
	wantGet(t, b, r, n, e)
}

func TestGetByHand(t *testing.T) {
	for _, s := range samples(t) {
		wantGet(t, s.b, s.r, len(s.b), api.OK)
	}
}

func TestGetWithOthersBehind(t *testing.T) {
	all := samples(t)
	d := drawer(182)
	for i, s := range all {
		for _, behind := range [][]byte{{0}, {0xff}, {1, 2, 3}, all[(i+1)%len(all)].b, s.b, d.bytes(5000)} {
			wantGet(t, slices.Concat(s.b, behind), s.r, len(s.b), api.OK)
		}
	}
}

func TestGetWithBytesMissing(t *testing.T) {
	for _, s := range samples(t) {
		for many := range len(s.b) {
			wantError(t, s.b[:many], api.ErrShort)
			// Bytes that stand behind the end, in the same memory, do not count.
			wantError(t, s.b[:many:many], api.ErrShort)
		}
	}
	wantError(t, nil, api.ErrShort)
	wantError(t, []byte{}, api.ErrShort)
}

func TestGetFewBytes(t *testing.T) {
	for a := range 256 {
		wantError(t, []byte{byte(a)}, api.ErrShort)
		for b := range 256 {
			wantError(t, []byte{byte(a), byte(b)}, api.ErrShort)
			for _, kind := range []byte{0, api.RecTheadr, 0xff} {
				wantModel(t, []byte{kind, byte(a), byte(b)})
			}
		}
	}
}

func TestGetOfFourBytes(t *testing.T) {
	for kind := range 256 {
		for sum := range 256 {
			want := api.ErrSum
			if sum == 0 || (kind+1+sum)%256 == 0 {
				want = api.OK
			}
			b := []byte{byte(kind), 1, 0, byte(sum)}
			if want == api.OK {
				wantGet(t, b, api.Record{Kind: byte(kind)}, 4, api.OK)
				continue
			}
			wantError(t, b, want)
		}
	}
}

func TestGetCheckSums(t *testing.T) {
	for _, s := range samples(t) {
		b := slices.Clone(s.b)
		last := len(b) - 1
		for sum := range 256 {
			b[last] = byte(sum)
			if sum == 0 || byte(sum) == s.b[last] {
				wantGet(t, b, s.r, len(b), api.OK)
				continue
			}
			wantError(t, b, api.ErrSum)
			wantError(t, slices.Concat(b, s.b), api.ErrSum)
		}
	}
}

func TestGetWithEachByteBent(t *testing.T) {
	for _, s := range samples(t) {
		last := len(s.b) - 1
		for at := range s.b {
			if at > 40 && at < last-40 && at%97 != 0 {
				continue
			}
			b := slices.Clone(s.b)
			for by := 1; by < 256; by++ {
				b[at] = s.b[at] ^ byte(by)
				wantModel(t, b)
				if (at == 0 || at > 2 && at < last) && b[last] != 0 {
					wantError(t, b, api.ErrSum)
				}
				if (at == 0 || at > 2 && at < last) && b[last] == 0 {
					wantGet(t, b, api.Record{Kind: b[0], Body: b[3:last]}, len(b), api.OK)
				}
			}
		}
	}
}

func TestGetNoCheckSum(t *testing.T) {
	d := drawer(183)
	for many := range 300 {
		r := api.Record{Kind: d.byte(), Body: d.bytes(many)}
		b := slices.Concat([]byte{r.Kind, byte(many + 1), byte((many + 1) >> 8)}, r.Body, []byte{0})
		wantGet(t, b, r, many+4, api.OK)
		wantGet(t, append(b, 0xff), r, many+4, api.OK)
	}
}

// following is bytes of a kind that tell that so many follow, so many of which stand there, the last one of which is a right check sum (or 0).
func following(tell, stand int) []byte {
	b := append([]byte{api.RecLedata, byte(tell), byte(tell >> 8)}, bytes.Repeat([]byte{3}, stand)...)
	if stand > 0 {
		b[len(b)-1] = 0
		all := 0
		for _, one := range b {
			all += int(one)
		}
		b[len(b)-1] = byte(-all)
	}
	return b
}

func TestGetLengths(t *testing.T) {
	for _, stand := range []int{0, 1, 2, 1000, 5000} {
		wantError(t, following(0, stand), api.ErrForm)
	}
	for _, tell := range []int{1, 2, 3, 255, 256, 257, 4000, 4001} {
		wantGet(t, following(tell, tell), api.Record{Kind: api.RecLedata, Body: bytes.Repeat([]byte{3}, tell-1)}, tell+3, api.OK)
		for _, stand := range []int{0, 1, tell / 2, tell - 2, tell - 1} {
			if stand >= 0 && stand < tell {
				wantError(t, following(tell, stand), api.ErrShort)
			}
		}
		wrong := following(tell, tell)
		wrong[0]++
		wantError(t, wrong, api.ErrSum)
	}
	for _, tell := range []int{4002, 4003, 4095, 4096, 5000, 32767, 32768, 65534, 65535} {
		for _, stand := range []int{0, 1, 4000, 4001, tell - 1, tell, tell + 1} {
			wantError(t, following(tell, stand), api.ErrBig)
		}
	}
}

func TestGetEveryLength(t *testing.T) {
	b := bytes.Repeat([]byte{0}, 70000)
	for tell := range 1 << 16 {
		b[0], b[1], b[2] = byte(tell*7), byte(tell), byte(tell>>8)
		switch {
		case tell == 0:
			wantError(t, b, api.ErrForm)
		case tell > 4001:
			wantError(t, b, api.ErrBig)
			wantError(t, b[:3], api.ErrBig)
		default:
			wantGet(t, b, api.Record{Kind: b[0], Body: make([]byte, tell-1)}, tell+3, api.OK)
			wantError(t, b[:tell+2], api.ErrShort)
		}
	}
}

func TestGetDrawn(t *testing.T) {
	d := drawer(184)
	for range 20000 {
		b := d.bytes(int(d.byte()) % 24)
		if len(b) > 2 {
			b[1] %= 24
			b[2] &= d.byte() & d.byte() & d.byte() & 1
		}
		if len(b) > 0 && d.byte()&1 == 0 {
			b[len(b)-1] = 0
		}
		wantModel(t, b)
	}
}

func TestGetBackWhatWasPut(t *testing.T) {
	d := drawer(185)
	for many := range api.MostBody + 1 {
		r := api.Record{Kind: d.byte(), Body: d.bytes(many)}
		b := Put(r)
		wantGet(t, b, r, many+4, api.OK)
	}
}

func TestGetChangesNothing(t *testing.T) {
	for _, s := range samples(t) {
		b, whole := roomy(s.b)
		was := slices.Clone(whole)
		r, _, _ := Get(b)
		if !bytes.Equal(whole, was) {
			t.Fatalf("kind %02x: Get changed what was handed in", s.r.Kind)
		}
		for i := range whole {
			whole[i] ^= 0xff
		}
		if !sameRecord(r, s.r) {
			t.Fatalf("kind %02x: what Get answered is changed with what was handed in", s.r.Kind)
		}
		was = slices.Clone(whole)
		r.Body = append(r.Body, 1, 2, 3)
		for i := range r.Body {
			r.Body[i] ^= 0x33
		}
		if !bytes.Equal(whole, was) {
			t.Fatalf("kind %02x: what Get answered is no memory of its own", s.r.Kind)
		}
	}
}
