package iter

import (
	"bytes"
	"slices"
	"testing"

	"hansom/api"
)

// spoil is what a caller does to bytes, behind their end too.
func spoil(b []byte) {
	b = b[:cap(b)]
	for i := range b {
		b[i] ^= 0xff
	}
}

// spoilBlock is what a caller does to a block, and to all that stands in it.
func spoilBlock(b *api.Block) {
	spoil(b.Bytes)
	for i := range b.Blocks {
		spoilBlock(&b.Blocks[i])
	}
	b.Times += 3
}

// roomy is bytes with more of them behind their end, that are none of theirs.
func roomy(b []byte) []byte {
	more := append(slices.Clone(b), "\x01\x00\x00\x00\x01behind"...)
	return more[:len(b)]
}

// samples are blocks that may be, and some that may not.
func samples() []api.Block {
	d := drawer(61)
	l := []api.Block{{}, leaf(1, "x"), leaf(0, "x"), leaf(5, ""), leaf(-3, "abc"), leaf(70000, "abc"), of(2, leaf(3, "x")), of(1), chain(8, leaf(2, "ab")), chain(9, leaf(2, "ab")),
		{Times: 2, Bytes: []byte("abc"), Blocks: []api.Block{leaf(1, "d")}}, {Times: 1, Bytes: make([]byte, 300)}, of(65535, leaf(65535, "x"))}
	for range 50 {
		l = append(l, d.small(5), d.any(4))
	}
	return l
}

func TestBlocksAreNotChanged(t *testing.T) {
	for _, b := range samples() {
		was := copied(b)
		May(b)
		Size(b)
		Spread(b)
		Put(b)
		Record(1, 5, []api.Block{b, b})
		if !same(b, was) {
			t.Errorf("the block %v is %v now", shown(was), shown(b))
		}
	}
}

// TestRoomIsNotChanged has room behind a block's bytes, none of which it may have, and behind its blocks.
func TestRoomIsNotChanged(t *testing.T) {
	for _, given := range [][]byte{roomy(nil), roomy([]byte("ab"))} {
		whole := slices.Clone(given[:cap(given)])
		room := append(many(3), leaf(9, "behind"))
		blocks := room[:3]
		if len(given) > 0 {
			blocks = room[:0]
		}
		b := api.Block{Times: 2, Bytes: given, Blocks: blocks}
		May(b)
		Size(b)
		l, ok := Spread(b)
		Put(b)
		Record(1, 5, []api.Block{b})
		if !bytes.Equal(given[:cap(given)], whole) || !slices.EqualFunc(room, append(many(3), leaf(9, "behind")), same) {
			t.Errorf("behind %q it is % x now", given, given[:cap(given)])
		}
		if want := spreadModel(b); !ok || !bytes.Equal(l, want) {
			t.Errorf("it spreads to % x; want % x", l, want)
		}
	}
}

func TestBytesAreNotChanged(t *testing.T) {
	for _, b := range [][]byte{{}, {1}, {0x80}, {1, 5, 0}, body(1, 5, leaf(3, "x")), body(300, 5, of(2, leaf(3, "x"), leaf(1, "y")), leaf(2, "z")), body(0, 5, leaf(3, "x")), body(1, 5, leaf(0, "x")), body(1, 65535, leaf(3, "x")), body(1, 5, chain(9, leaf(3, "x")))} {
		given := roomy(b)
		whole := slices.Clone(given[:cap(given)])
		Get(given)
		if !bytes.Equal(given, b) || !bytes.Equal(given[:cap(given)], whole) {
			t.Errorf("% x is % x now", b, given[:cap(given)])
		}
	}
}

// TestNothingBehindCounts has bytes with room behind them: what stands there is none of theirs.
func TestNothingBehindCounts(t *testing.T) {
	for _, b := range [][]byte{{}, {1}, {1, 5}, {0x80}, {0x80, 0x80, 5}, {1, 5, 0, 1}, {1, 5, 0, 1, 0, 0, 0}, {1, 5, 0, 1, 0, 0, 0, 1}, {1, 5, 0, 1, 0, 1, 0}} {
		wantWrong(t, roomy(b), api.ErrShort)
	}
	wantWrong(t, roomy([]byte{1, 5, 0}), api.ErrForm)
	wantGot(t, roomy(body(1, 5, leaf(3, "x"))), 1, 5, []byte("xxx"))
	wantMay(t, api.Block{Times: 1, Bytes: roomy(nil)}, false)
	wantMay(t, api.Block{Times: 1, Bytes: roomy(make([]byte, 255))}, true)
	wantSize(t, api.Block{Times: 2, Bytes: roomy([]byte("ab"))}, 4)
	wantSpread(t, api.Block{Times: 2, Bytes: roomy([]byte("ab"))}, []byte("abab"))
	wantPut(t, api.Block{Times: 2, Bytes: roomy([]byte("ab"))}, []byte{2, 0, 0, 0, 2, 'a', 'b'})
	wantSize(t, of(2, many(5)[:2]...), 4)
	wantSpread(t, of(2, many(5)[:2]...), []byte{0, 1, 0, 1})
	wantPut(t, of(2, many(5)[:2]...), putModel(of(2, many(2)...)))
	none := api.Block{Times: 2, Bytes: []byte("ab"), Blocks: many(5)[:0]}
	wantMay(t, none, true)
	wantSize(t, none, 4)
	wantSpread(t, none, []byte("abab"))
	wantPut(t, none, []byte{2, 0, 0, 0, 2, 'a', 'b'})
	wantRecord(t, 1, 5, many(5)[:2], body(1, 5, many(2)...))
}

// TestWhatIsAnsweredStays has what was handed in changed behind the call.
func TestWhatIsAnsweredStays(t *testing.T) {
	for _, b := range samples() {
		was := copied(b)
		l := []api.Block{b, leaf(1, "end")}
		spreads, ok := Spread(b)
		own := Put(b)
		r := Record(300, 5, l)
		wasSpreads, wasOwn, wasBody := slices.Clone(spreads), slices.Clone(own), slices.Clone(r.Body)
		spoilBlock(&b)
		l[0], l[1] = api.Block{}, api.Block{}
		if !bytes.Equal(spreads, wasSpreads) || !bytes.Equal(own, wasOwn) || !bytes.Equal(r.Body, wasBody) || r.Kind != 0xa2 {
			t.Errorf("of the block %v what was answered (%v) is another now", shown(was), ok)
		}
	}
	record := body(300, 5, of(2, leaf(3, "x"), leaf(1, "yz")), leaf(1, "w"))
	d, e := Get(record)
	spoil(record)
	if e != api.OK || !is(d, 300, 5, []byte("xxxyzxxxyzw")) {
		t.Errorf("what was read is %d, %d, % x, %d now", d.Seg, d.Off, d.Bytes, e)
	}
	record = body(1, 5, leaf(1, "once"))
	d, e = Get(record)
	spoil(record)
	if e != api.OK || !is(d, 1, 5, []byte("once")) {
		t.Errorf("what was read is %d, %d, % x, %d now", d.Seg, d.Off, d.Bytes, e)
	}
}

// TestWhatIsAnsweredIsTheCallers spoils answers: what was handed in and other answers stay.
func TestWhatIsAnsweredIsTheCallers(t *testing.T) {
	for _, b := range samples() {
		was := copied(b)
		first, _ := Spread(b)
		second, _ := Spread(b)
		kept := slices.Clone(second)
		spoil(first)
		spoil(Put(b))
		spoil(Record(1, 5, []api.Block{b}).Body)
		if !same(b, was) || !bytes.Equal(second, kept) {
			t.Errorf("the block %v, or what it spreads to, is another now", shown(was))
		}
		again, _ := Spread(b)
		if !bytes.Equal(again, kept) {
			t.Errorf("the block %v spreads to others now", shown(was))
		}
	}
	record := body(1, 5, leaf(1, "once"))
	first, _ := Get(record)
	second, _ := Get(record)
	spoil(first.Bytes)
	if !is(second, 1, 5, []byte("once")) {
		t.Error("other data are others now")
	}
	wantGot(t, record, 1, 5, []byte("once"))
}

func TestTheSameAgain(t *testing.T) {
	d := drawer(67)
	for range 1000 {
		b := d.any(4)
		wantMay(t, b, May(b))
		wantSize(t, b, Size(b))
		wantPut(t, b, Put(b))
		if l, ok := Spread(b); ok {
			wantSpread(t, b, l)
		} else {
			wantNoSpread(t, b)
		}
		record := d.bytes(d.below(30))
		one, e := Get(record)
		more, err := Get(record)
		if e != err || !is(more, one.Seg, int(one.Off), one.Bytes) {
			t.Fatal("Get tells other data")
		}
	}
}
