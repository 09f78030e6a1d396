package long

import (
	"math"
	"testing"

	"hansom/api"
)

// near are all numbers near the names, and some far from them whose lower bits are a name's.
func near() []int {
	all := []int{
		math.MinInt, math.MinInt32, -1 << 16, math.MaxInt32, math.MaxInt,
		256 + api.IMUL, 1<<16 + api.IMUL, 1<<32 + api.IMUL, 256 + api.IDIV, 1<<16 + api.IDIV, 1<<32 + api.IDIV,
		256 + api.AAA, 1<<16 + api.DAS, 1<<32 + api.DAA, 256 + api.AAM, 1<<16 + api.AAD, 1<<32 + api.AAM,
	}
	for name := -api.Names - 5; name <= api.Names+5; name++ {
		all = append(all, name)
	}
	return all
}

// otherNames are those near, but some.
func otherNames(but ...int) []int {
	is := map[int]int{}
	for _, name := range but {
		is[name] = 1
	}
	var others []int
	for _, name := range near() {
		if is[name] == 0 {
			others = append(others, name)
		}
	}
	return others
}

// both are the two values of a question.
func both() [2]bool { return [2]bool{false, true} }

// edges are words at the edges of bytes, words and their signs.
func edges() []uint16 {
	return []uint16{
		0, 1, 2, 3, 9, 10, 0x7e, 0x7f, 0x80, 0x81, 0xb5, 0xb6, 0xfe, 0xff,
		0x100, 0x101, 0x17f, 0x180, 0x1ff, 0x5555, 0x7f00, 0x7f7f, 0x7f80, 0x7fff, 0x7ffe,
		0x8000, 0x8001, 0x8002, 0x807f, 0x8080, 0xaaaa, 0xff00, 0xff01, 0xff7f, 0xff80, 0xff81, 0xfffe, 0xffff,
	}
}

// drawer draws words by a rule.
type drawer uint32

func (d *drawer) word() uint16 {
	*d = *d*1664525 + 1013904223
	return uint16(*d >> 16)
}

// drawn are so many words that are drawn by a rule.
func drawn(many int) []uint16 {
	d := drawer(86420)
	l := make([]uint16, many)
	for i := range l {
		l[i] = d.word()
	}
	return l
}

// words are the edges, and some that are drawn.
func words(many int) []uint16 { return append(edges(), drawn(many)...) }

// uppers are what may stand above a byte that counts.
func uppers() []uint16 { return []uint16{0x0100, 0x7f00, 0x8000, 0xa500, 0xff00} }

// size is one more than the greatest number of words, or bytes.
func size(wide bool) int64 {
	if wide {
		return 65536
	}
	return 256
}

// plain is a word, or its lower byte, as a number.
func plain(v uint16, wide bool) int64 { return int64(v) % size(wide) }

// withSign is a number from 0 on below a size as one with a sign: the upper ones count from below 0.
func withSign(v, size int64) int64 {
	if v >= size/2 {
		return v - size
	}
	return v
}

// read is a word, or its lower byte, as a number, with its sign or without.
func read(v uint16, wide, sign bool) int64 {
	if sign {
		return withSign(plain(v, wide), size(wide))
	}
	return plain(v, wide)
}

// split is a number's lower and upper half, a number below 0 as one that came round.
func split(n int64, wide bool) (uint16, uint16) {
	s := size(wide)
	n = (n%(s*s) + s*s) % (s * s)
	return uint16(n % s), uint16(n / s)
}

// checkMul holds Mul against the product of both numbers.
func checkMul(t *testing.T, name int, a, b uint16, wide bool) {
	t.Helper()
	sign := name == api.IMUL
	n := read(a, wide, sign) * read(b, wide, sign)
	wantLow, wantHigh := split(n, wide)
	// The upper half tells nothing if the lower one, read alone, is the product.
	wantTells := read(wantLow, wide, sign) != n
	low, high, tells := Mul(name, a, b, wide)
	if low != wantLow || high != wantHigh || tells != wantTells {
		t.Fatalf("Mul(%d, %#x, %#x, %v) = %#x, %#x, %v, want %#x, %#x, %v", name, a, b, wide, low, high, tells, wantLow, wantHigh, wantTells)
	}
}

func TestMulAllBytes(t *testing.T) {
	for _, name := range []int{api.MUL, api.IMUL, 0} {
		for a := range uint16(256) {
			for b := range uint16(256) {
				checkMul(t, name, a, b, false)
			}
		}
	}
}

func TestMulWords(t *testing.T) {
	for _, name := range []int{api.MUL, api.IMUL, api.IDIV} {
		for _, a := range words(300) {
			for _, b := range words(300) {
				checkMul(t, name, a, b, true)
			}
		}
	}
}

func TestMulBytesLeaveOutWhatStandsAbove(t *testing.T) {
	for _, name := range []int{api.MUL, api.IMUL, -1} {
		for _, a := range words(60) {
			for _, b := range words(60) {
				checkMul(t, name, a, b, false)
				low, high, _ := Mul(name, a, b, false)
				if low > 0xff || high > 0xff {
					t.Fatalf("Mul(%d, %#x, %#x, false) = %#x, %#x: more than bytes", name, a, b, low, high)
				}
			}
		}
		for a := range uint16(256) {
			for _, above := range uppers() {
				checkMul(t, name, a|above, 0xf3, false)
				checkMul(t, name, 0xf3, a|above, false)
			}
		}
	}
}

func TestMulOfOtherNames(t *testing.T) {
	for _, name := range otherNames(api.IMUL) {
		for _, wide := range both() {
			for _, a := range edges() {
				checkMul(t, name, a, 0x8081, wide)
				checkMul(t, name, 0xffff, a, wide)
			}
		}
	}
}

func TestMulByHand(t *testing.T) {
	for _, h := range []struct {
		name      int
		a, b      uint16
		wide      bool
		low, high uint16
		tells     bool
	}{
		{api.MUL, 0, 0xff, false, 0, 0, false},
		{api.MUL, 15, 17, false, 0xff, 0, false},
		{api.MUL, 16, 16, false, 0, 1, true},
		{api.MUL, 0xff, 0xff, false, 1, 0xfe, true},
		{api.MUL, 0x01ff, 0xff02, false, 0xfe, 1, true},
		{api.MUL, 0xff, 0xff, true, 0xfe01, 0, false},
		{api.MUL, 0x100, 0x100, true, 0, 1, true},
		{api.MUL, 0xffff, 0xffff, true, 1, 0xfffe, true},
		{api.MUL, 0x8000, 1, true, 0x8000, 0, false},
		{api.IMUL, 0, 0x80, false, 0, 0, false},
		{api.IMUL, 0x7f, 1, false, 0x7f, 0, false},
		{api.IMUL, 0x40, 2, false, 0x80, 0, true},
		{api.IMUL, 0x40, 0xfe, false, 0x80, 0xff, false},
		{api.IMUL, 0x80, 1, false, 0x80, 0xff, false},
		{api.IMUL, 0x80, 0xff, false, 0x80, 0, true},
		{api.IMUL, 0x80, 0x80, false, 0, 0x40, true},
		{api.IMUL, 0x80, 0x7f, false, 0x80, 0xc0, true},
		{api.IMUL, 0x43, 0xfe, false, 0x7a, 0xff, true},
		{api.IMUL, 0xff, 0xff, false, 1, 0, false},
		{api.IMUL, 0x00ff, 0x01ff, false, 1, 0, false},
		{api.IMUL, 0xff, 0xff, true, 0xfe01, 0, true},
		{api.IMUL, 0xffff, 0xffff, true, 1, 0, false},
		{api.IMUL, 0x4000, 2, true, 0x8000, 0, true},
		{api.IMUL, 0x4000, 0xfffe, true, 0x8000, 0xffff, false},
		{api.IMUL, 0x8000, 0x8000, true, 0, 0x4000, true},
		{api.IMUL, 0x8000, 0xffff, true, 0x8000, 0, true},
		{api.IMUL, 0x8000, 0x7fff, true, 0x8000, 0xc000, true},
	} {
		low, high, tells := Mul(h.name, h.a, h.b, h.wide)
		if low != h.low || high != h.high || tells != h.tells {
			t.Errorf("Mul(%d, %#x, %#x, %v) = %#x, %#x, %v, want %#x, %#x, %v", h.name, h.a, h.b, h.wide, low, high, tells, h.low, h.high, h.tells)
		}
	}
}

// share is how often a number goes into another one, cut towards 0, and what is left; fits tells whether both numbers' size has room for how often.
func share(n, by int64, wide, sign bool) (often, left int64, fits bool) {
	if by == 0 {
		return 0, 0, false
	}
	// Without signs first: both get theirs behind it.
	often, left = unsigned(n)/unsigned(by), unsigned(n)%unsigned(by)
	most := size(wide) - 1
	if sign {
		most = size(wide)/2 - 1
	}
	if often > most {
		return 0, 0, false
	}
	if n < 0 != (by < 0) {
		often = -often
	}
	if n < 0 {
		left = -left
	}
	return often, left, true
}

// unsigned is a number without its sign.
func unsigned(n int64) int64 { return max(n, -n) }

// checkDiv holds Div against what is shared out.
func checkDiv(t *testing.T, name int, low, high, by uint16, wide bool) {
	t.Helper()
	n := plain(low, wide) + size(wide)*plain(high, wide)
	sign := name == api.IDIV
	if sign {
		n = withSign(n, size(wide)*size(wide))
	}
	o, l, fits := share(n, read(by, wide, sign), wide, sign)
	wantOften, _ := split(o, wide)
	wantLeft, _ := split(l, wide)
	often, left, ok := Div(name, low, high, by, wide)
	if often != wantOften || left != wantLeft || ok != fits {
		t.Fatalf("Div(%d, %#x, %#x, %#x, %v) = %#x, %#x, %v, want %#x, %#x, %v", name, low, high, by, wide, often, left, ok, wantOften, wantLeft, fits)
	}
}

// checkDivOf is checkDiv of a number in one piece.
func checkDivOf(t *testing.T, name int, n int64, by uint16, wide bool) {
	t.Helper()
	low, high := split(n, wide)
	checkDiv(t, name, low, high, by, wide)
}

func TestDivAllBytes(t *testing.T) {
	for _, name := range []int{api.DIV, api.IDIV} {
		for by := range uint16(256) {
			// An odd step comes to each lower half, and to each upper one.
			for n := int64(0); n < 1<<16; n += 13 {
				checkDivOf(t, name, n, by, false)
			}
		}
	}
}

func TestDivWords(t *testing.T) {
	for _, name := range []int{api.DIV, api.IDIV, api.IMUL} {
		for _, high := range words(40) {
			for _, low := range words(40) {
				for _, by := range words(40) {
					checkDiv(t, name, low, high, by, true)
				}
			}
		}
	}
}

func TestDivDrawnWords(t *testing.T) {
	d := drawer(13579)
	for range 400000 {
		low, high, by := d.word(), d.word(), d.word()
		checkDiv(t, api.DIV, low, high, by, true)
		// Cut below the divisor the upper half lets how often fit.
		if by != 0 {
			checkDiv(t, api.DIV, low, high%by, by, true)
		}
		often := withSign(int64(d.word()), 65536)
		n := often*withSign(int64(by), 65536) + withSign(int64(low), 65536)
		checkDivOf(t, api.IDIV, n, by, true)
		checkDiv(t, api.IDIV, low, high, by, true)
	}
}

func TestDivBytesLeaveOutWhatStandsAbove(t *testing.T) {
	for _, name := range []int{api.DIV, api.IDIV, 0} {
		for _, n := range words(60) {
			low, high := n%256, n/256
			for _, by := range words(60) {
				checkDiv(t, name, low, high, by, false)
				for _, above := range uppers() {
					checkDiv(t, name, low|above, high, by%256, false)
					checkDiv(t, name, low, high|above, by%256, false)
					checkDiv(t, name, low, high, by%256|above, false)
					checkDiv(t, name, low|above, high|above, by|above, false)
				}
				often, left, _ := Div(name, low|0xff00, high|0xff00, by, false)
				if often > 0xff || left > 0xff {
					t.Fatalf("Div(%d, %#x, %#x, %#x, false) = %#x, %#x: more than bytes", name, low, high, by, often, left)
				}
			}
		}
	}
}

func TestDivByNothing(t *testing.T) {
	for _, name := range near() {
		for _, high := range edges() {
			for _, low := range []uint16{0, 1, 0xff, 0x8000, 0xffff} {
				for _, by := range []uint16{0, 0x100, 0x8000, 0xff00} {
					checkNoDiv(t, name, low, high, by, false)
				}
				checkNoDiv(t, name, low, high, 0, true)
			}
		}
	}
}

// checkNoDiv holds Div to tell that it can't be, and nothing beside it.
func checkNoDiv(t *testing.T, name int, low, high, by uint16, wide bool) {
	t.Helper()
	if often, left, ok := Div(name, low, high, by, wide); often != 0 || left != 0 || ok {
		t.Fatalf("Div(%d, %#x, %#x, %#x, %v) = %#x, %#x, %v, want 0, 0, false", name, low, high, by, wide, often, left, ok)
	}
}

// checkQuotient holds Div of so often a divisor, and what is left, to tell both, or that they don't fit.
func checkQuotient(t *testing.T, name int, often, by, left int64, wide, fits bool) {
	t.Helper()
	low, high := split(often*by+left, wide)
	divisor, _ := split(by, wide)
	if !fits {
		checkNoDiv(t, name, low, high, divisor, wide)
		return
	}
	wantOften, _ := split(often, wide)
	wantLeft, _ := split(left, wide)
	gotOften, gotLeft, ok := Div(name, low, high, divisor, wide)
	if gotOften != wantOften || gotLeft != wantLeft || !ok {
		t.Fatalf("Div(%d, %#x, %#x, %#x, %v) = %#x, %#x, %v, want %#x, %#x", name, low, high, divisor, wide, gotOften, gotLeft, ok, wantOften, wantLeft)
	}
}

func TestDivJustFits(t *testing.T) {
	for _, wide := range both() {
		s := size(wide)
		for by := int64(1); by < s; by++ {
			for _, left := range []int64{0, by / 2, by - 1} {
				checkQuotient(t, api.DIV, s-1, by, left, wide, true)
				checkQuotient(t, api.DIV, s/2, by, left, wide, true)
				checkQuotient(t, api.DIV, s, by, left, wide, false)
			}
		}
	}
}

func TestDivWithSignsJustFits(t *testing.T) {
	for _, wide := range both() {
		half := size(wide) / 2
		for by := int64(1); by <= half; by++ {
			for _, left := range []int64{0, by / 2, by - 1} {
				// Of a divisor above 0 what is left has the sign of how often; below 0, the other one. One above the greatest number with a sign is there below 0 alone.
				if by < half {
					checkQuotient(t, api.IDIV, half-1, by, left, wide, true)
					checkQuotient(t, api.IDIV, half, by, left, wide, false)
					checkQuotient(t, api.IDIV, 1-half, by, -left, wide, true)
					checkQuotient(t, api.IDIV, -half, by, -left, wide, false)
				}
				checkQuotient(t, api.IDIV, 1-half, -by, left, wide, true)
				checkQuotient(t, api.IDIV, -half, -by, left, wide, false)
				checkQuotient(t, api.IDIV, half-1, -by, -left, wide, true)
				checkQuotient(t, api.IDIV, half, -by, -left, wide, false)
			}
		}
	}
}

func TestDivOfTheLeastNumber(t *testing.T) {
	// By whatever it is divided, it is too often.
	for by := range 1 << 16 {
		checkNoDiv(t, api.IDIV, 0, 0x8000, uint16(by), true)
		checkNoDiv(t, api.IDIV, 0, 0x80, uint16(by), false)
	}
}

func TestDivOfOtherNames(t *testing.T) {
	for _, name := range otherNames(api.IDIV) {
		for _, wide := range both() {
			for _, low := range edges() {
				for _, by := range edges() {
					checkDiv(t, name, low, 0, by, wide)
					checkDiv(t, name, low, 0x7f, by, wide)
					checkDiv(t, name, low, 0xff80, by, wide)
				}
			}
		}
	}
}

func TestDivByHand(t *testing.T) {
	for _, h := range []struct {
		name          int
		low, high, by uint16
		wide          bool
		often, left   uint16
		ok            bool
	}{
		{api.DIV, 7, 0, 2, true, 3, 1, true},
		{api.DIV, 7, 0, 2, false, 3, 1, true},
		{api.DIV, 0, 0, 5, true, 0, 0, true},
		{api.DIV, 4, 0, 5, true, 0, 4, true},
		{api.DIV, 0xff, 0, 1, false, 0xff, 0, true},
		{api.DIV, 0, 1, 1, false, 0, 0, false},
		{api.DIV, 0xff, 0xfe, 0xff, false, 0xff, 0xfe, true},
		{api.DIV, 0, 0xff, 0xff, false, 0, 0, false},
		{api.DIV, 0xf9, 0xff, 2, false, 0, 0, false},
		{api.DIV, 0xffff, 0, 1, true, 0xffff, 0, true},
		{api.DIV, 0, 1, 1, true, 0, 0, false},
		{api.DIV, 0xffff, 0xfffe, 0xffff, true, 0xffff, 0xfffe, true},
		{api.DIV, 0, 0xffff, 0xffff, true, 0, 0, false},
		{api.IDIV, 7, 0, 2, true, 3, 1, true},
		{api.IDIV, 0xfff9, 0xffff, 2, true, 0xfffd, 0xffff, true},
		{api.IDIV, 7, 0, 0xfffe, true, 0xfffd, 1, true},
		{api.IDIV, 0xfff9, 0xffff, 0xfffe, true, 3, 0xffff, true},
		{api.IDIV, 0xf9, 0xff, 2, false, 0xfd, 0xff, true},
		{api.IDIV, 7, 0, 0xfe, false, 0xfd, 1, true},
		{api.IDIV, 0xf9, 0xff, 0xfe, false, 3, 0xff, true},
		{api.IDIV, 127, 0, 1, false, 127, 0, true},
		{api.IDIV, 128, 0, 1, false, 0, 0, false},
		{api.IDIV, 0x81, 0xff, 1, false, 0x81, 0, true},
		{api.IDIV, 0x80, 0xff, 1, false, 0, 0, false},
		{api.IDIV, 0x81, 0xff, 0xff, false, 127, 0, true},
		{api.IDIV, 0x80, 0xff, 0xff, false, 0, 0, false},
		{api.IDIV, 0, 0x80, 0xff, false, 0, 0, false},
		{api.IDIV, 0x7fff, 0, 1, true, 0x7fff, 0, true},
		{api.IDIV, 0x8000, 0, 1, true, 0, 0, false},
		{api.IDIV, 0x8001, 0xffff, 1, true, 0x8001, 0, true},
		{api.IDIV, 0x8000, 0xffff, 1, true, 0, 0, false},
		{api.IDIV, 0, 0x8000, 0xffff, true, 0, 0, false},
		{api.IDIV, 0xff81, 0, 1, false, 0, 0, false},
	} {
		often, left, ok := Div(h.name, h.low, h.high, h.by, h.wide)
		if often != h.often || left != h.left || ok != h.ok {
			t.Errorf("Div(%d, %#x, %#x, %#x, %v) = %#x, %#x, %v, want %#x, %#x, %v", h.name, h.low, h.high, h.by, h.wide, often, left, ok, h.often, h.left, h.ok)
		}
	}
}

func TestDivTakesBackWhatMulMade(t *testing.T) {
	for _, wide := range both() {
		for _, a := range words(100) {
			for _, b := range words(100) {
				low, high, _ := Mul(api.MUL, a, b, wide)
				often, left, ok := Div(api.DIV, low, high, b, wide)
				if plain(b, wide) == 0 {
					if ok {
						t.Fatalf("%#x by %#x", a, b)
					}
					continue
				}
				if int64(often) != plain(a, wide) || left != 0 || !ok {
					t.Fatalf("%#x times and by %#x (%v): %#x, %#x, %v", a, b, wide, often, left, ok)
				}
			}
		}
	}
}
