package index

import (
	"bytes"
	"fmt"
	"math"
	"slices"
	"testing"

	"hansom/api"
)

// reading is a call that takes something of a Source, and what it answers as a text.
type reading struct {
	what string
	call func(s *Source) string
	// nought is its answer where there is nothing.
	nought string
}

func taking(n int) reading {
	return reading{fmt.Sprintf("Take(%d)", n), func(s *Source) string { return fmt.Sprintf("% x", s.Take(n)) }, ""}
}

var (
	aByte   = reading{"Byte", func(s *Source) string { return fmt.Sprint(s.Byte()) }, "0"}
	aWord   = reading{"Word", func(s *Source) string { return fmt.Sprint(s.Word()) }, "0"}
	aNumber = reading{"Number", func(s *Source) string { return fmt.Sprint(s.Number()) }, "0"}
	anIndex = reading{"Index", func(s *Source) string { return fmt.Sprint(s.Index()) }, "0"}
	aName   = reading{"Name", func(s *Source) string { return fmt.Sprintf("%q", s.Name()) }, `""`}
	aLong   = reading{"Long", func(s *Source) string { return fmt.Sprint(s.Long()) }, "0"}
)

var readings = []reading{taking(math.MinInt), taking(-1), taking(0), taking(1), taking(2), taking(3), taking(300), taking(math.MaxInt), aByte, aWord, aNumber, anIndex, aName, aLong}

// piece is a call, bytes that it takes whole, and its answer.
type piece struct {
	reading
	text string
	want string
}

// piecesByHand are pieces whose bytes are told by hand.
func piecesByHand() []piece {
	l := []piece{
		{taking(0), "", ""}, {taking(1), "00", "00"}, {taking(1), "ff", "ff"}, {taking(2), "8184", "81 84"}, {taking(5), "0102030405", "01 02 03 04 05"},
		{aByte, "00", "0"}, {aByte, "01", "1"}, {aByte, "7f", "127"}, {aByte, "80", "128"}, {aByte, "ff", "255"},
		// Two bytes where one would do.
		{anIndex, "8000", "0"}, {anIndex, "8001", "1"}, {anIndex, "8041", "65"}, {anIndex, "807f", "127"},
		{aLong, "810000", "0"}, {aLong, "810100", "1"}, {aLong, "818000", "128"}, {aLong, "84000000", "0"}, {aLong, "84050000", "5"}, {aLong, "84ffff00", "65535"},
		{aLong, "8800000000", "0"}, {aLong, "8880000000", "128"}, {aLong, "88ffffff00", "16777215"},
		{aName, "00", `""`}, {aName, "0141", `"A"`}, {aName, "024142", `"AB"`}, {aName, "04434f4445", `"CODE"`}, {aName, "0100", `"\x00"`}, {aName, "02c3a9", `"é"`}, {aName, "03024142", `"\x02AB"`},
	}
	for _, of := range []struct {
		r reading
		l []hand
	}{{aWord, words}, {aNumber, numbers}, {anIndex, indices}, {aLong, lengths}} {
		for _, h := range of.l {
			l = append(l, piece{of.r, h.text, fmt.Sprint(h.n)})
		}
	}
	return l
}

// wantState asks a Source what was wrong, and how many bytes are left.
func wantState(t *testing.T, s *Source, where string, e api.Errno, left int) {
	t.Helper()
	if s.Err() != e || s.Left() != left {
		t.Fatalf("%s: Err %d, Left %d; want %d, %d", where, s.Err(), s.Left(), e, left)
	}
}

// wantEnded asks that something is wrong: that nothing is left, all is 0, and the first error stays.
func wantEnded(t *testing.T, s *Source, where string, e api.Errno) {
	t.Helper()
	for range 2 {
		wantState(t, s, where, e, 0)
		for _, r := range readings {
			if got := r.call(s); got != r.nought {
				t.Fatalf("%s, then %s: %s; want %s", where, r.what, got, r.nought)
			}
			wantState(t, s, where+", then "+r.what, e, 0)
		}
		for _, other := range []api.Errno{api.OK, api.ErrInput, api.ErrShort, api.ErrForm, api.ErrBig, api.ErrStart, -1} {
			s.Wrong(other)
			wantState(t, s, fmt.Sprintf("%s, then Wrong(%d)", where, other), e, 0)
		}
		if got := s.End(); got != e {
			t.Fatalf("%s: End is %d; want %d", where, got, e)
		}
	}
}

func wantCall(t *testing.T, s *Source, r reading, where, want string) {
	t.Helper()
	if got := r.call(s); got != want {
		t.Fatalf("%s: %s is %s; want %s", where, r.what, got, want)
	}
}

func TestFromGoesThroughBytes(t *testing.T) {
	for _, b := range [][]byte{nil, {}} {
		wantState(t, From(b), "of no bytes", api.OK, 0)
		if e := From(b).End(); e != api.OK {
			t.Fatalf("End of no bytes is %d", e)
		}
	}
	d := drawer(195)
	for _, many := range []int{1, 2, 3, 100, 4000, 70000} {
		b := d.bytes(many)
		s := From(b)
		for at, one := range b {
			wantState(t, s, fmt.Sprintf("at %d of %d", at, many), api.OK, many-at)
			wantCall(t, s, aByte, fmt.Sprintf("at %d of %d", at, many), fmt.Sprint(one))
		}
		wantState(t, s, "at the end", api.OK, 0)
		if e := s.End(); e != api.OK {
			t.Fatalf("End behind %d bytes is %d", many, e)
		}
	}
}

func TestPiecesWithAllTheirBytes(t *testing.T) {
	for _, p := range piecesByHand() {
		b := told(t, p.text)
		for _, behind := range []string{"", "00", "ff", "818488", "0141"} {
			more := told(t, behind)
			s := From(slices.Concat(b, more))
			where := fmt.Sprintf("of % x, % x", b, more)
			wantState(t, s, where, api.OK, len(b)+len(more))
			wantCall(t, s, p.reading, where, p.want)
			wantState(t, s, where, api.OK, len(more))
			wantCall(t, s, taking(len(more)), where, fmt.Sprintf("% x", more))
			if e := s.End(); e != api.OK {
				t.Fatalf("%s: End is %d", where, e)
			}
		}
	}
}

func TestPiecesWithBytesMissing(t *testing.T) {
	for _, p := range piecesByHand() {
		b := told(t, p.text)
		for many := range len(b) {
			// What stands behind in the same memory does not count.
			for _, part := range [][]byte{b[:many], b[:many:many]} {
				s := From(part)
				where := fmt.Sprintf("of % x", part)
				wantCall(t, s, p.reading, where, p.nought)
				wantEnded(t, s, where+" "+p.what, api.ErrShort)
			}
		}
	}
}

func TestPiecesBehindOneAnother(t *testing.T) {
	l := piecesByHand()
	slices.Reverse(l)
	var b []byte
	for _, p := range l {
		b = append(b, told(t, p.text)...)
	}
	s, left := From(b), len(b)
	for i, p := range l {
		wantCall(t, s, p.reading, fmt.Sprintf("piece %d, %s", i, p.text), p.want)
		left -= len(told(t, p.text))
		wantState(t, s, fmt.Sprintf("behind piece %d", i), api.OK, left)
	}
	if e := s.End(); e != api.OK {
		t.Fatalf("End is %d", e)
	}
}

func TestTake(t *testing.T) {
	d := drawer(196)
	for many := range 20 {
		b := d.bytes(many)
		for n := range many + 1 {
			s := From(b)
			where := fmt.Sprintf("of % x", b)
			wantCall(t, s, taking(n), where, fmt.Sprintf("% x", b[:n]))
			wantState(t, s, where, api.OK, many-n)
			wantCall(t, s, taking(0), where, "")
			wantCall(t, s, taking(many-n), where, fmt.Sprintf("% x", b[n:]))
			wantState(t, s, where, api.OK, 0)
			wantCall(t, s, taking(0), where, "")
			wantState(t, s, where, api.OK, 0)
		}
		for _, n := range []int{many + 1, many + 2, 100, 256, 65536, math.MaxInt32, math.MaxInt, -1, -2, -many - 1, math.MinInt32, math.MinInt} {
			s := From(b)
			wantCall(t, s, taking(n), fmt.Sprintf("of % x", b), "")
			wantEnded(t, s, fmt.Sprintf("of % x, Take(%d)", b, n), api.ErrShort)
			s = From(append(b, 1, 2))
			s.Word()
			wantState(t, s, "in the middle", api.OK, many)
			wantCall(t, s, taking(n), "in the middle", "")
			wantEnded(t, s, fmt.Sprintf("in the middle, Take(%d)", n), api.ErrShort)
		}
	}
}

func TestIndexWithTwoBytesAlways(t *testing.T) {
	for n := range api.MostIndex + 1 {
		s := From([]byte{byte(128 + n/256), byte(n % 256), 0x55})
		if got := s.Index(); got != n || s.Left() != 1 || s.Err() != api.OK {
			t.Fatalf("the index %d in two bytes is %d, Left %d, Err %d", n, got, s.Left(), s.Err())
		}
	}
}

func TestIndexWithOneByte(t *testing.T) {
	for first := range 256 {
		s := From([]byte{byte(first)})
		if first < 128 {
			wantCall(t, s, anIndex, "one byte", fmt.Sprint(first))
			wantState(t, s, "one byte", api.OK, 0)
			continue
		}
		wantCall(t, s, anIndex, "one byte of two", "0")
		wantEnded(t, s, "one byte of two", api.ErrShort)
	}
}

func TestNameOfEachCount(t *testing.T) {
	d := drawer(197)
	for many := range 256 {
		b := append([]byte{byte(many)}, d.bytes(many)...)
		s := From(append(b, 0x41))
		wantCall(t, s, aName, "whole", fmt.Sprintf("%q", b[1:]))
		wantState(t, s, "whole", api.OK, 1)
		for _, stand := range []int{0, 1, many / 2, many - 1} {
			if stand < 0 || stand >= many {
				continue
			}
			s := From(b[:1+stand])
			wantCall(t, s, aName, "bytes missing", `""`)
			wantEnded(t, s, fmt.Sprintf("%d of %d bytes of a name", stand, many), api.ErrShort)
		}
	}
}

func TestLongOfEachMark(t *testing.T) {
	behind := map[int]int{0x81: 2, 0x84: 3, 0x88: 4}
	values := map[int]string{0x81: "513", 0x84: "197121", 0x88: "67305985"}
	for mark := range 256 {
		all := []byte{byte(mark), 1, 2, 3, 4, 5, 6}
		for many := 1; many <= len(all); many++ {
			s := From(all[:many])
			where := fmt.Sprintf("of % x", all[:many])
			needs, is := behind[mark]
			switch {
			case mark <= 128:
				wantCall(t, s, aLong, where, fmt.Sprint(mark))
				wantState(t, s, where, api.OK, many-1)
			case !is:
				wantCall(t, s, aLong, where, "0")
				wantEnded(t, s, where, api.ErrForm)
			case many < 1+needs:
				wantCall(t, s, aLong, where, "0")
				wantEnded(t, s, where, api.ErrShort)
			default:
				wantCall(t, s, aLong, where, values[mark])
				wantState(t, s, where, api.OK, many-1-needs)
			}
		}
	}
}

func TestEnd(t *testing.T) {
	b := []byte{1, 2, 3, 4, 5}
	for at := range len(b) + 1 {
		s := From(b)
		s.Take(at)
		where := fmt.Sprintf("at %d of %d", at, len(b))
		wantState(t, s, where, api.OK, len(b)-at)
		want := api.ErrForm
		if at == len(b) {
			want = api.OK
		}
		for range 2 {
			if e := s.End(); e != want {
				t.Fatalf("%s: End is %d; want %d", where, e, want)
			}
			wantState(t, s, where+", behind End", want, 0)
		}
		if want != api.OK {
			wantEnded(t, s, where, api.ErrForm)
		}
	}
}

func TestNothingIsWrongUntilSomethingIs(t *testing.T) {
	s := From(nil)
	if e := s.End(); e != api.OK {
		t.Fatalf("End of no bytes is %d", e)
	}
	wantCall(t, s, aByte, "behind End", "0")
	wantEnded(t, s, "behind End, Byte", api.ErrShort)
}

func TestWrong(t *testing.T) {
	b := []byte{1, 2, 3, 4, 5}
	for _, e := range []api.Errno{api.ErrInput, api.ErrShort, api.ErrForm, api.ErrSum, api.ErrIndex, api.ErrNone, api.ErrTwice, api.ErrBig, api.ErrRange, api.ErrMagic, 7777, -1, math.MaxInt, math.MinInt} {
		for at := range len(b) + 1 {
			s := From(b)
			s.Take(at)
			s.Wrong(e)
			wantEnded(t, s, fmt.Sprintf("Wrong(%d) at %d", e, at), e)
			s = From(b)
			s.Take(at)
			s.Take(9)
			s.Wrong(e)
			wantEnded(t, s, fmt.Sprintf("bytes missing at %d, then Wrong(%d)", at, e), api.ErrShort)
			s = From(append(b, 9))
			s.Take(at)
			s.End()
			s.Wrong(e)
			wantEnded(t, s, fmt.Sprintf("bytes left at %d, then Wrong(%d)", at, e), api.ErrForm)
		}
	}
}

func TestWrongOfNoError(t *testing.T) {
	b := []byte{1, 2, 3}
	s := From(b)
	for at, one := range b {
		s.Wrong(api.OK)
		wantState(t, s, "behind Wrong(OK)", api.OK, len(b)-at)
		wantCall(t, s, aByte, "behind Wrong(OK)", fmt.Sprint(one))
	}
	s.Wrong(api.OK)
	if e := s.End(); e != api.OK {
		t.Fatalf("End behind Wrong(OK) is %d", e)
	}
	s.Wrong(api.ErrBig)
	wantEnded(t, s, "behind Wrong(OK)", api.ErrBig)
}

func TestTheFirstErrorStays(t *testing.T) {
	faults := []struct {
		what string
		call func(s *Source)
		e    api.Errno
	}{
		{"Take below 0", func(s *Source) { s.Take(-1) }, api.ErrShort},
		{"Take of too many", func(s *Source) { s.Take(100) }, api.ErrShort},
		{"Name of too many", func(s *Source) { s.Name() }, api.ErrShort},
		{"Long of another mark", func(s *Source) { s.Long() }, api.ErrForm},
		{"Wrong", func(s *Source) { s.Wrong(api.ErrTwice) }, api.ErrTwice},
		{"End", func(s *Source) { s.End() }, api.ErrForm},
	}
	for _, first := range faults {
		for _, second := range faults {
			s := From([]byte{0x90, 1, 2, 3, 4, 5})
			first.call(s)
			second.call(s)
			wantEnded(t, s, first.what+", then "+second.what, first.e)
		}
	}
}

func TestSourceOfNone(t *testing.T) {
	for _, r := range readings {
		var none *Source
		wantCall(t, none, r, "of none", r.nought)
		wantEnded(t, none, "of none, "+r.what, api.ErrInput)
	}
	var none *Source
	none.Wrong(api.ErrForm)
	wantEnded(t, none, "of none, Wrong", api.ErrInput)
	if e := none.End(); e != api.ErrInput {
		t.Fatalf("End of none is %d", e)
	}
	if none.Take(0) != nil || none.Take(1) != nil || none.Take(-1) != nil {
		t.Fatal("bytes were taken of none")
	}
}

func TestWhatIsPutIsReadAgain(t *testing.T) {
	d := drawer(198)
	behind := [][]byte{nil, {0}, {0xff}, {0x80, 0x81}, {1, 2, 3, 4, 5}}
	again := func(r reading, put []byte, want string) {
		t.Helper()
		for _, more := range behind {
			s := From(slices.Concat(put, more))
			if got := r.call(s); got != want || s.Left() != len(more) || s.Err() != api.OK {
				t.Fatalf("% x..: %s is %s, Left %d, Err %d; want %s, %d", begin(put), r.what, got, s.Left(), s.Err(), want, len(more))
			}
		}
	}
	for n := range api.MostIndex + 1 {
		again(anIndex, Put(n), fmt.Sprint(n))
	}
	for _, n := range []int{-1, api.MostIndex + 1, 1 << 20} {
		again(anIndex, Put(n), "0")
	}
	for many := range 300 {
		b := d.bytes(many)
		again(aName, Name(string(b)), fmt.Sprintf("%q", b[:min(many, 255)]))
	}
	for n := range 1 << 16 {
		again(aWord, Two(uint16(n)), fmt.Sprint(n))
		again(aLong, Long(uint32(n)), fmt.Sprint(n))
	}
	for range 5000 {
		n := d.number() >> (d.byte() % 32)
		again(aNumber, Four(n), fmt.Sprint(n))
		again(aLong, Long(n), fmt.Sprint(n))
	}
	for _, h := range slices.Concat(numbers, lengths) {
		again(aNumber, Four(h.n), fmt.Sprint(h.n))
		again(aLong, Long(h.n), fmt.Sprint(h.n))
	}
}

// roomy is bytes with others behind them in the same memory, and all of these.
func roomy(b []byte) (part, whole []byte) {
	whole = slices.Concat(b, bytes.Repeat([]byte{0xee}, 17))
	return whole[:len(b)], whole
}

func TestSourceHasBytesOfItsOwn(t *testing.T) {
	b := drawer(199)
	was := b.bytes(40)
	part, whole := roomy(was)
	before := slices.Clone(whole)
	s := From(part)
	if got := s.Take(10); !bytes.Equal(got, was[:10]) {
		t.Fatal("Take is other bytes")
	}
	for i := range whole {
		whole[i] ^= 0xff
	}
	got := s.Take(10)
	if !bytes.Equal(got, was[10:20]) {
		t.Fatal("a Source is changed with what was handed in")
	}
	for i := range got {
		got[i] ^= 0x33
	}
	_ = append(got, 0x77, 0x77, 0x77, 0x77)
	if rest := s.Take(20); !bytes.Equal(rest, was[20:]) {
		t.Fatal("a Source is changed with what was taken of it")
	}
	for i := range whole {
		if whole[i] != before[i]^0xff {
			t.Fatal("a Source changed what was handed in")
		}
	}
	if e := s.End(); e != api.OK {
		t.Fatalf("End is %d", e)
	}
}

func TestWhatIsTakenIsTheCallers(t *testing.T) {
	d := drawer(200)
	was := d.bytes(60)
	b := slices.Clone(was)
	s := From(b)
	var l [][]byte
	for _, n := range []int{5, 0, 1, 10, 4, 20, 20} {
		l = append(l, s.Take(n))
		// Behind each, what the Source has still to tell must stay.
		_ = append(l[len(l)-1], bytes.Repeat([]byte{0x99}, 30)...)
	}
	at := 0
	for i, one := range l {
		if !bytes.Equal(one, was[at:at+len(one)]) {
			t.Fatalf("what was taken is changed by what was put behind another, at %d", i)
		}
		at += len(one)
	}
	for i := range l {
		for at := range l[i] {
			l[i][at] ^= 0x55
		}
		left := 0
		for _, one := range l[:i+1] {
			left += len(one)
		}
		for _, one := range l[i+1:] {
			if !bytes.Equal(one, was[left:left+len(one)]) {
				t.Fatalf("what was taken shares its bytes, from %d on", i)
			}
			left += len(one)
		}
	}
	if !bytes.Equal(b, was) {
		t.Fatal("what was taken shares the bytes of what was handed in")
	}
}

func TestSourcesDoNotMeet(t *testing.T) {
	b := []byte{1, 0x41, 2, 0x42, 0x43}
	one, other := From(b), From(b)
	got := one.Take(5)
	for i := range got {
		got[i] = 0
	}
	one.Wrong(api.ErrBig)
	wantState(t, other, "another Source", api.OK, 5)
	wantCall(t, other, aName, "another Source", `"A"`)
	wantCall(t, other, aName, "another Source", `"BC"`)
	if e := other.End(); e != api.OK {
		t.Fatalf("End of another Source is %d", e)
	}
}
