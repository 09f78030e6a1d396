package regs

import (
	"math"
	"testing"

	"hansom/api"
)

// number and para are a plain word and a paragraph's one.
func number(v uint16) api.Val { return api.Val{V: v} }

func para(v uint16) api.Val { return api.Val{V: v, T: true} }

// sample is registers that all differ; every other one has a paragraph.
func sample() api.Regs {
	r := api.Regs{IP: 0x4321, F: api.FlagC | api.FlagZ | api.FlagO}
	for n := range r.G {
		r.G[n] = api.Val{V: 0x1120 + 0x1101*uint16(n), T: n%2 == 1}
	}
	for n := range r.S {
		r.S[n] = api.Val{V: 0xa050 + 0x0101*uint16(n), T: n%2 == 0}
	}
	return r
}

// noWords, noBytes and noSegs are numbers of registers that there are none of.
func noBytes() []int {
	return []int{math.MinInt, -9, -8, -4, -1, 8, 9, 12, 16, 255, 256, 1 << 16, 1 << 32, math.MaxInt}
}

func noWords() []int { return noBytes() }

func noSegs() []int { return append(noBytes(), 4, 5, 6, 7) }

func TestNumbersOfRegisters(t *testing.T) {
	r := sample()
	words := []int{api.AX, api.CX, api.DX, api.BX, api.SP, api.BP, api.SI, api.DI}
	for at, n := range words {
		if Get(r, n) != r.G[at] {
			t.Errorf("register %d is %#v, want %#v", n, Get(r, n), r.G[at])
		}
	}
	for at, n := range []int{api.ES, api.CS, api.SS, api.DS} {
		if Seg(r, n) != r.S[at] {
			t.Errorf("segment register %d is %#v, want %#v", n, Seg(r, n), r.S[at])
		}
	}
}

func TestGetOfNone(t *testing.T) {
	for _, n := range noWords() {
		if v := Get(sample(), n); v != number(0) {
			t.Errorf("Get of %d is %#v", n, v)
		}
	}
}

func TestPutChangesOneRegister(t *testing.T) {
	for n := range 8 {
		for _, v := range []api.Val{number(0), number(0xffff), para(0), para(0x8001)} {
			want := sample()
			want.G[n] = v
			if got := Put(sample(), n, v); got != want {
				t.Errorf("Put of %d, %#v: %#v, want %#v", n, v, got, want)
			}
		}
	}
}

func TestPutOfNone(t *testing.T) {
	for _, n := range noWords() {
		if got := Put(sample(), n, para(7)); got != sample() {
			t.Errorf("Put of %d: %#v", n, got)
		}
	}
}

func TestByteOfEach(t *testing.T) {
	var r api.Regs
	r.G = [8]api.Val{number(0x0201), para(0x0403), number(0x0605), para(0x0807), para(0xffff), para(0xffff), para(0xffff), para(0xffff)}
	// AL, CL, DL, BL, AH, CH, DH, BH.
	want := [8]byte{1, 3, 5, 7, 2, 4, 6, 8}
	for n, b := range want {
		got, ok := Byte(r, n)
		if plain := n%2 == 0; got != b || ok != plain {
			t.Errorf("byte %d is %#x, %v, want %#x, %v", n, got, ok, b, plain)
		}
	}
}

func TestByteOfNone(t *testing.T) {
	for _, n := range noBytes() {
		if b, ok := Byte(sample(), n); b != 0 || !ok {
			t.Errorf("Byte of %d is %#x, %v", n, b, ok)
		}
	}
}

func TestPutByteLeavesTheOther(t *testing.T) {
	for at := range 4 {
		for v := range 256 {
			b := byte(v)
			checkPutByte(t, at, b, sample().G[at].V&0xff00|uint16(b))
			checkPutByte(t, at+4, b, sample().G[at].V&0x00ff|uint16(b)<<8)
		}
	}
}

// checkPutByte puts a byte into the sample's registers: one has a paragraph, and then has none.
func checkPutByte(t *testing.T, n int, b byte, word uint16) {
	t.Helper()
	want := sample()
	plain := !want.G[n%4].T
	want.G[n%4] = number(word)
	got, ok := PutByte(sample(), n, b)
	if got != want || ok != plain {
		t.Errorf("PutByte of %d, %#x: %#v, %v, want %#v, %v", n, b, got, ok, want, plain)
	}
	if back, ok := Byte(got, n); back != b || !ok {
		t.Errorf("byte %d is %#x, %v, want %#x", n, back, ok, b)
	}
}

func TestPutByteTakesTheParagraphAway(t *testing.T) {
	for n := range 8 {
		var r api.Regs
		for at := range r.G {
			r.G[at] = para(0x1234)
		}
		got, ok := PutByte(r, n, 0x56)
		if ok {
			t.Errorf("PutByte of %d: it had a paragraph", n)
		}
		if _, ok = PutByte(got, n, 0x56); !ok {
			t.Errorf("PutByte of %d: it has a paragraph still", n)
		}
		for at := range got.G {
			if got.G[at].T != (at != n%4) {
				t.Errorf("PutByte of %d: register %d is %#v", n, at, got.G[at])
			}
		}
	}
}

func TestPutByteOfNone(t *testing.T) {
	for _, n := range noBytes() {
		if got, ok := PutByte(sample(), n, 7); got != sample() || !ok {
			t.Errorf("PutByte of %d: %#v, %v", n, got, ok)
		}
	}
}

func TestPutByteOfTheChapter(t *testing.T) {
	r, ok := PutByte(api.Regs{}, 4, 1)
	if !ok || Get(r, api.AX) != number(0x0100) {
		t.Errorf("AX is %#v, %v", Get(r, api.AX), ok)
	}
}

func TestSegOfNone(t *testing.T) {
	for _, n := range noSegs() {
		if v := Seg(sample(), n); v != number(0) {
			t.Errorf("Seg of %d is %#v", n, v)
		}
	}
}

func TestPutSegChangesOneRegister(t *testing.T) {
	for n := range 4 {
		for _, v := range []api.Val{number(0), number(0xffff), para(0), para(0x8001)} {
			want := sample()
			want.S[n] = v
			if got := PutSeg(sample(), n, v); got != want {
				t.Errorf("PutSeg of %d, %#v: %#v, want %#v", n, v, got, want)
			}
		}
	}
}

func TestPutSegOfNone(t *testing.T) {
	for _, n := range noSegs() {
		if got := PutSeg(sample(), n, para(7)); got != sample() {
			t.Errorf("PutSeg of %d: %#v", n, got)
		}
	}
}

// theFlags is all that there are, by the numbers that the chapter tells.
func theFlags() []uint16 { return []uint16{1, 4, 16, 64, 128, 256, 512, 1024, 2048} }

func TestNumbersOfFlags(t *testing.T) {
	names := []uint16{api.FlagC, api.FlagP, api.FlagA, api.FlagZ, api.FlagS, api.FlagT, api.FlagI, api.FlagD, api.FlagO}
	all := uint16(0)
	for at, f := range theFlags() {
		if names[at] != f {
			t.Errorf("flag %d is %#x, want %#x", at, names[at], f)
		}
		all |= f
	}
	if all != api.Flags {
		t.Errorf("the flags are %#x, want %#x", uint16(api.Flags), all)
	}
}

func TestFlagOfEach(t *testing.T) {
	for _, set := range theFlags() {
		r := api.Regs{F: set}
		for _, f := range theFlags() {
			if Flag(r, f) != (f == set) {
				t.Errorf("of %#x is %#x set: %v", set, f, Flag(r, f))
			}
		}
	}
}

func TestFlagOfSeveral(t *testing.T) {
	r := api.Regs{F: api.FlagC | api.FlagS}
	for _, c := range []struct {
		f    uint16
		want bool
	}{
		{api.FlagC | api.FlagZ, true},
		{api.FlagC | api.FlagS, true},
		{api.FlagS | api.FlagO, true},
		{api.FlagZ | api.FlagO, false},
		{api.Flags, true},
		{0xffff, true},
		{0, false},
		{api.Fixed, false},
		{0x0028, false},
	} {
		if Flag(r, c.f) != c.want {
			t.Errorf("of %#x is one of %#x set: %v", r.F, c.f, !c.want)
		}
	}
	if Flag(api.Regs{}, 0xffff) {
		t.Error("no flag is set, but one is")
	}
}

func TestWithOfEachWord(t *testing.T) {
	for _, was := range []uint16{0, api.Flags, api.FlagC | api.FlagI, api.FlagD | api.FlagZ} {
		for w := range 1 << 16 {
			f := uint16(w)
			r := sample()
			r.F = was
			set, reset := r, r
			set.F = was | f&0x0fd5
			reset.F = was &^ f
			if With(r, f, true) != set || With(r, f, false) != reset {
				t.Fatalf("With of %#x, %#x: %#x, %#x", was, f, With(r, f, true).F, With(r, f, false).F)
			}
		}
	}
}

func TestWithOfFlagsThatThereAreNot(t *testing.T) {
	for _, on := range []bool{false, true} {
		for _, f := range []uint16{0, 2, 8, 32, 0x1000, 0x2000, 0x4000, 0x8000, api.Fixed, 0xf02a} {
			if got := With(sample(), f, on); got != sample() {
				t.Errorf("With of %#x, %v: %#v", f, on, got)
			}
		}
	}
}

func TestFlagsWord(t *testing.T) {
	for w := range 1 << 16 {
		f := uint16(w)
		if got, want := FlagsWord(api.Regs{F: f}), f&0x0fd5|0xf002; got != want {
			t.Fatalf("the word of %#x is %#x, want %#x", f, got, want)
		}
	}
}

func TestFromWord(t *testing.T) {
	for w := range 1 << 16 {
		f := uint16(w)
		want := sample()
		want.F = f & 0x0fd5
		got := FromWord(sample(), f)
		if got != want {
			t.Fatalf("from %#x: %#v, want %#v", f, got, want)
		}
		if back := FlagsWord(got); back != f&0x0fd5|0xf002 {
			t.Fatalf("from %#x and back: %#x", f, back)
		}
	}
}

func TestWhatIsHandedInStays(t *testing.T) {
	r := sample()
	Put(r, api.BX, para(1))
	PutByte(r, 7, 1)
	PutSeg(r, api.DS, para(1))
	With(r, api.Flags, true)
	FromWord(r, 0xffff)
	if r != sample() {
		t.Errorf("it is %#v", r)
	}
}
