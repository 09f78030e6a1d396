package value

import (
	"fmt"
	"math"
	"testing"

	"hansom/api"
)

func TestNum(t *testing.T) {
	for _, c := range []struct{ n, want int }{
		{0, 0}, {1, 1}, {-1, -1}, {255, 255}, {-128, -128}, {65535, 65535}, {65536, 65536},
		{most, most}, {most - 1, most - 1}, {most + 1, least}, {most + 2, least + 1},
		{least, least}, {least + 1, least + 1}, {least - 1, most}, {least - 2, most - 1},
		{whole, 0}, {whole - 1, -1}, {whole + 1, 1}, {-whole, 0}, {-whole - 1, -1}, {-whole + 1, 1},
		{whole + most, most}, {whole + most + 1, least}, {-whole + least, least}, {-whole + least - 1, most},
		{5 * whole, 0}, {5*whole + 7, 7}, {-5*whole - 7, -7}, {1 << 40, 0}, {1<<40 + 3<<31, least}, {0x123456789abcdef0, -0x65432110}, {-0x123456789abcdef0, 0x65432110},
		{math.MaxInt, -1}, {math.MaxInt - 1, -2}, {math.MinInt, 0}, {math.MinInt + 1, 1}, {math.MinInt + most, most}, {math.MaxInt - most, least},
	} {
		wantValue(t, fmt.Sprint("Num of ", c.n), Num(c.n), true, api.Value{N: c.want, Known: true})
	}
}

func TestNumBesideModel(t *testing.T) {
	d := drawer(291)
	for range 20000 {
		n := d.number()
		wantValue(t, fmt.Sprint("Num of ", n), Num(n), true, api.Value{N: folded(great(n)), Known: true})
	}
}

func TestPlainByHand(t *testing.T) {
	for _, c := range []struct {
		v    api.Value
		want bool
	}{
		{api.Value{}, true}, {api.Value{Known: true}, true}, {api.Value{N: 5, Known: true}, true}, {api.Value{N: -5}, true}, {api.Value{N: math.MaxInt}, true},
		{api.Value{Type: api.TypeByte}, true}, {api.Value{Type: api.TypeWord, Known: true}, true}, {api.Value{Type: api.TypeLong}, true}, {api.Value{Type: api.TypeQuad}, true}, {api.Value{Type: api.TypeNear}, true}, {api.Value{Type: api.TypeFar}, true},
		{api.Value{From: api.FromSeg}, false}, {api.Value{From: api.FromGroup, Known: true}, false}, {api.Value{From: api.FromExt}, false}, {api.Value{From: -1}, false}, {api.Value{From: 4}, false}, {api.Value{From: math.MinInt}, false}, {api.Value{From: whole}, false},
		{api.Value{Wants: api.WantsOff}, false}, {api.Value{Wants: api.WantsSeg, Known: true}, false}, {api.Value{Wants: -1}, false}, {api.Value{Wants: 3}, false}, {api.Value{Wants: whole}, false},
		{api.Value{From: api.FromSeg, Wants: api.WantsOff}, false}, {api.Value{From: api.FromExt, Wants: api.WantsSeg}, false}, {api.Value{From: api.FromSeg, Which: 1, Type: api.TypeWord, Known: true}, false},
	} {
		if Plain(c.v) != c.want {
			t.Errorf("Plain of %+v: not %v", c.v, c.want)
		}
	}
	for _, n := range edges {
		if !Plain(Num(n)) {
			t.Error("Num is no number alone of", n)
		}
	}
}

func TestPlainOfEach(t *testing.T) {
	for _, v := range froms() {
		for _, n := range []int{0, 7, -7, most, least} {
			v.N = n
			if Plain(v) != (v.From == api.FromNone && v.Wants == api.WantsAll) {
				t.Errorf("Plain of %+v: %v", v, Plain(v))
			}
		}
	}
}

func TestAddByHand(t *testing.T) {
	x := api.Value{N: 4, From: api.FromSeg, Which: 2, Type: api.TypeWord, Known: true}
	six := api.Value{N: 6, From: api.FromSeg, Which: 2, Type: api.TypeWord, Known: true}
	v, ok := Add(x, Num(2))
	wantValue(t, "X+2", v, ok, six)
	v, ok = Add(Num(2), x)
	wantValue(t, "2+X", v, ok, six)
	v, ok = Add(x, Num(-2))
	wantValue(t, "X+-2", v, ok, api.Value{N: 2, From: api.FromSeg, Which: 2, Type: api.TypeWord, Known: true})
	v, ok = Add(Num(2), Num(3))
	wantValue(t, "2+3", v, ok, Num(5))
	v, ok = Add(x, x)
	wantNothing(t, "X+X", v, ok)
	v, ok = Add(Num(most), Num(1))
	wantValue(t, "most+1", v, ok, Num(least))
	v, ok = Add(Num(least), Num(-1))
	wantValue(t, "least-1", v, ok, Num(most))
	v, ok = Add(api.Value{N: 1, Type: api.TypeByte, Known: true}, api.Value{N: 2, Type: api.TypeFar, Known: true})
	wantValue(t, "a number of BYTE and one of FAR", v, ok, api.Value{N: 3, Type: api.TypeByte, Known: true})
}

// turned is numbers, and what comes of seven and these.
var turned = []struct{ n, more, less int }{
	{0, 7, 7}, {1, 8, 6}, {-1, 6, 8}, {7, 14, 0}, {8, 15, -1}, {-7, 0, 14}, {-8, -1, 15}, {1000, 1007, -993},
	{most - 7, most, least + 15}, {most - 6, least, least + 14}, {most, least + 6, least + 8}, {least + 7, least + 14, least}, {least + 8, least + 15, most}, {least, least + 7, least + 7}, {-most, least + 8, least + 6},
	{whole, 7, 7}, {whole - 7, 0, 14}, {-whole, 7, 7}, {3*whole + 1, 8, 6}, {math.MaxInt, 6, 8}, {math.MinInt, 7, 7},
}

func TestAddNumbers(t *testing.T) {
	for _, v := range froms() {
		for _, c := range turned {
			for _, known := range []bool{false, true} {
				want := v
				want.N, want.Known = c.more, v.Known && known
				n := api.Value{N: c.n, Known: known}
				got, ok := Add(v, n)
				wantValue(t, fmt.Sprintf("Add %+v and %+v", v, n), got, ok, want)
				if alone(v) {
					want.Type = api.TypeNone
				}
				got, ok = Add(n, v)
				wantValue(t, fmt.Sprintf("Add %+v and %+v", n, v), got, ok, want)
			}
		}
	}
}

func TestAddOfEachTwo(t *testing.T) {
	for _, a := range froms() {
		for _, b := range froms() {
			b.N = 5
			what := fmt.Sprintf("Add %+v and %+v", a, b)
			got, ok := Add(a, b)
			want := a
			if !alone(b) {
				want = b
			}
			want.N, want.Known = 12, a.Known && b.Known
			if alone(a) || alone(b) {
				wantValue(t, what, got, ok, want)
			} else {
				wantNothing(t, what, got, ok)
			}
		}
	}
}

func TestSubByHand(t *testing.T) {
	x := api.Value{N: 4, From: api.FromSeg, Which: 2, Type: api.TypeWord, Known: true}
	y := api.Value{N: 10, From: api.FromSeg, Which: 2, Type: api.TypeByte, Known: true}
	v, ok := Sub(y, x)
	wantValue(t, "Y-X", v, ok, Num(6))
	v, ok = Sub(x, y)
	wantValue(t, "X-Y", v, ok, Num(-6))
	v, ok = Sub(x, x)
	wantValue(t, "X-X", v, ok, Num(0))
	v, ok = Sub(x, Num(3))
	wantValue(t, "X-3", v, ok, api.Value{N: 1, From: api.FromSeg, Which: 2, Type: api.TypeWord, Known: true})
	v, ok = Sub(x, Num(-3))
	wantValue(t, "X--3", v, ok, api.Value{N: 7, From: api.FromSeg, Which: 2, Type: api.TypeWord, Known: true})
	v, ok = Sub(Num(3), x)
	wantNothing(t, "3-X", v, ok)
	v, ok = Sub(Num(3), Num(5))
	wantValue(t, "3-5", v, ok, Num(-2))
	v, ok = Sub(Num(least), Num(1))
	wantValue(t, "least-1", v, ok, Num(most))
	v, ok = Sub(Num(0), Num(least))
	wantValue(t, "0-least", v, ok, Num(least))
	x.Wants = api.WantsSeg
	v, ok = Sub(x, x)
	wantNothing(t, "SEG X-SEG X", v, ok)
}

func TestSubNumbers(t *testing.T) {
	for _, v := range froms() {
		for _, c := range turned {
			for _, known := range []bool{false, true} {
				want := v
				want.N, want.Known = c.less, v.Known && known
				n := api.Value{N: c.n, Known: known}
				got, ok := Sub(v, n)
				wantValue(t, fmt.Sprintf("Sub %+v and %+v", v, n), got, ok, want)
				n.Type = api.TypeFar
				got, ok = Sub(v, n)
				wantValue(t, fmt.Sprintf("Sub %+v and %+v", v, n), got, ok, want)
				got, ok = Sub(n, v)
				if !alone(v) {
					wantNothing(t, fmt.Sprintf("Sub %+v and %+v", n, v), got, ok)
				}
			}
		}
	}
}

// Two that stand somewhere: of each two kinds, and of those that differ in one thing alone.
func TestSubOfEachTwo(t *testing.T) {
	for _, a := range froms() {
		for _, b := range froms() {
			if alone(b) {
				continue
			}
			b.N = 5
			what := fmt.Sprintf("Sub %+v and %+v", a, b)
			got, ok := Sub(a, b)
			if a.From == b.From && a.Which == b.Which && a.Wants == b.Wants && a.Wants != api.WantsSeg {
				wantValue(t, what, got, ok, api.Value{N: 2, Known: a.Known && b.Known})
			} else {
				wantNothing(t, what, got, ok)
			}
		}
	}
}

// The number between two is taken modulo 2^32, also of numbers that are beyond that.
func TestSubBetween(t *testing.T) {
	for _, c := range []struct{ a, b, want int }{
		{0, 0, 0}, {5, 5, 0}, {9, 4, 5}, {4, 9, -5}, {-4, 9, -13}, {-4, -9, 5}, {65535, 0, 65535}, {0, 65536, -65536},
		{most, 0, most}, {most, -1, least}, {most, least, -1}, {least, most, 1}, {least, 1, most}, {0, least, least}, {-1, least, most}, {least, least, 0},
		{whole, 0, 0}, {whole + 5, 3, 2}, {3, whole + 5, -2}, {math.MaxInt, 0, -1}, {0, math.MinInt, 0}, {math.MinInt, math.MaxInt, 1}, {math.MaxInt, math.MinInt, -1},
	} {
		for from := api.FromSeg; from <= api.FromExt; from++ {
			a := api.Value{N: c.a, From: from, Which: 1, Type: api.TypeNear, Known: true}
			b := api.Value{N: c.b, From: from, Which: 1, Type: api.TypeLong, Known: true}
			for wants := api.WantsAll; wants <= api.WantsOff; wants++ {
				a.Wants, b.Wants = wants, wants
				got, ok := Sub(a, b)
				wantValue(t, fmt.Sprintf("Sub %+v and %+v", a, b), got, ok, Num(c.want))
			}
		}
	}
}

func TestAddAndSubBesideModel(t *testing.T) {
	d := drawer(292)
	for range 40000 {
		a, b := d.value(), d.value()
		if d.below(2) == 0 {
			b.From, b.Which, b.Wants = a.From, a.Which, a.Wants
		}
		if a.From == api.FromNone {
			a.Which = 0
		}
		if b.From == api.FromNone {
			b.Which = 0
		}
		besideAdd(t, a, b)
		besideSub(t, a, b)
	}
}

// besideAdd: Add is what the model tells of it.
func besideAdd(t *testing.T, a, b api.Value) {
	t.Helper()
	what := fmt.Sprintf("Add %+v and %+v", a, b)
	got, ok := Add(a, b)
	want := a
	if !alone(b) {
		want = b
	}
	want.N, want.Known = sum(a.N, b.N), a.Known && b.Known
	if alone(a) || alone(b) {
		wantValue(t, what, got, ok, want)
	} else {
		wantNothing(t, what, got, ok)
	}
}

// besideSub: Sub is what the model tells of it.
func besideSub(t *testing.T, a, b api.Value) {
	t.Helper()
	what := fmt.Sprintf("Sub %+v and %+v", a, b)
	got, ok := Sub(a, b)
	n, known := between(a.N, b.N), a.Known && b.Known
	switch {
	case alone(b):
		want := a
		want.N, want.Known = n, known
		wantValue(t, what, got, ok, want)
	case a.From == b.From && a.Which == b.Which && a.Wants == b.Wants && a.Wants != 2:
		wantValue(t, what, got, ok, api.Value{N: n, Known: known})
	default:
		wantNothing(t, what, got, ok)
	}
}

func TestFits(t *testing.T) {
	for _, c := range []struct {
		n          int
		byte, word bool
	}{
		{0, true, true}, {1, true, true}, {-1, true, true}, {127, true, true}, {128, true, true}, {-127, true, true},
		{-128, true, true}, {-129, false, true}, {255, true, true}, {256, false, true}, {254, true, true}, {257, false, true}, {-256, false, true},
		{-32768, false, true}, {-32767, false, true}, {-32769, false, false}, {65535, false, true}, {65534, false, true}, {65536, false, false}, {65537, false, false}, {32767, false, true}, {32768, false, true}, {-65536, false, false},
		{most, false, false}, {least, false, false}, {whole, false, false}, {whole + 1, false, false}, {-whole, false, false}, {1<<40 + 5, false, false}, {math.MaxInt, false, false}, {math.MinInt, false, false},
	} {
		if Fits(c.n, 1) != c.byte {
			t.Errorf("Fits of %d in 1: not %v", c.n, c.byte)
		}
		for _, size := range []int{2, 0, 3, 4, 8, 16, 255, 257, whole + 1, -1, -2, math.MaxInt, math.MinInt} {
			if Fits(c.n, size) != c.word {
				t.Errorf("Fits of %d in %d: not %v", c.n, size, c.word)
			}
		}
	}
}

func TestFitsOfEach(t *testing.T) {
	for n := -70000; n <= 70000; n++ {
		if Fits(n, 1) != (n >= -128 && n < 256) || Fits(n, 2) != (n >= -32768 && n < 65536) {
			t.Errorf("Fits of %d: %v, %v", n, Fits(n, 1), Fits(n, 2))
		}
	}
}

func TestSize(t *testing.T) {
	for _, c := range []struct{ kind, want int }{
		{api.TypeByte, 1}, {api.TypeWord, 2}, {api.TypeLong, 4}, {api.TypeQuad, 8}, {api.TypeNone, 0}, {api.TypeNear, 0}, {api.TypeFar, 0},
		{3, 0}, {5, 0}, {6, 0}, {7, 0}, {9, 0}, {10, 0}, {16, 0}, {100, 0}, {103, 0}, {256, 0}, {257, 0}, {-1, 0}, {-2, 0}, {-8, 0}, {whole + 1, 0}, {whole + 8, 0}, {math.MaxInt, 0}, {math.MinInt, 0}, {math.MinInt + 1, 0},
	} {
		if got := Size(c.kind); got != c.want {
			t.Errorf("Size of %d: %d, not %d", c.kind, got, c.want)
		}
	}
	for kind := -1000; kind <= 1000; kind++ {
		is := kind == 1 || kind == 2 || kind == 4 || kind == 8
		if got := Size(kind); is && got != kind || !is && got != 0 {
			t.Errorf("Size of %d: %d", kind, got)
		}
	}
}
