package long

import (
	"testing"

	"hansom/alu"
	"hansom/api"
)

// The flags by their numbers, so that what is wanted doesn't hang on package api's.
const (
	flagC = 1
	flagP = 4
	flagA = 16
	flagZ = 64
	flagS = 128
	flagO = 2048
)

func TestNumbersOfFlags(t *testing.T) {
	if api.FlagC != flagC || api.FlagP != flagP || api.FlagA != flagA || api.FlagZ != flagZ || api.FlagS != flagS || api.FlagO != flagO {
		t.Error("the flags have other numbers")
	}
	if api.FlagsSum != flagC|flagP|flagA|flagZ|flagS|flagO {
		t.Errorf("FlagsSum is %#x", api.FlagsSum)
	}
}

// decimalNames are those that Decimal does, adjustNames those that Adjust does.
func decimalNames() []int { return []int{api.AAA, api.AAS, api.DAA, api.DAS} }
func adjustNames() []int  { return []int{api.AAM, api.AAD} }

// befores are flags that were: none, all, each alone and all but it, with bits that are none of FlagsSum and without, and C and A in each way among them.
func befores() []uint16 {
	l := []uint16{0, 0xffff, api.FlagsSum, 0xffff &^ api.FlagsSum, api.Flags, api.Fixed, flagC | flagA, 0xffff &^ (flagC | flagA)}
	for k := range 16 {
		l = append(l, 1<<k, 0xffff&^(1<<k), api.FlagsSum&^(1<<k), 1<<k|flagC, 1<<k|flagA, 1<<k|flagC|flagA)
	}
	return l
}

// wheres are AH that are asked of each AL: at the edges of what carries and borrows out of it.
func wheres() []uint16 { return []uint16{0, 1, 9, 0x0a, 0x0f, 0x10, 0x7f, 0x80, 0xfe, 0xff} }

// signsOf is S, Z and P of a byte, its bits counted one by one.
func signsOf(al int) uint16 {
	f, ones := uint16(0), 0
	for k := range 8 {
		ones += al >> k % 2
	}
	if al >= 128 {
		f += flagS
	}
	if al == 0 {
		f += flagZ
	}
	if ones%2 == 0 {
		f += flagP
	}
	return f
}

// wantedDecimal is what Decimal should tell, by the chapter's words.
func wantedDecimal(name int, ax, was uint16) (uint16, uint16) {
	al, ah := int(ax%256), int(ax/256)
	hadA, hadC := was&flagA != 0, was&flagC != 0
	way := 1
	if name == api.AAS || name == api.DAS {
		way = -1
	}
	if name == api.AAA || name == api.AAS {
		f := was & (flagP | flagZ | flagS | flagO)
		if al%16 > 9 || hadA {
			al, ah = al+256+way*6, (ah+256+way)%256
			f += flagA + flagC
		}
		return uint16(ah*256 + al%16), f
	}
	f, by := was&flagO, 0
	if al%16 > 9 || hadA {
		f, by = f+flagA, by+6
	}
	if al > 153 || hadC {
		f, by = f+flagC, by+96
	}
	al = (al + 256 + way*by) % 256
	return uint16(ah*256 + al), f + signsOf(al)
}

func TestDecimalOfAll(t *testing.T) {
	for _, name := range decimalNames() {
		for al := range uint16(256) {
			for _, ah := range wheres() {
				for _, was := range befores() {
					checkDecimal(t, name, ah<<8|al, was)
				}
			}
		}
	}
}

// checkDecimal holds Decimal against what is wanted.
func checkDecimal(t *testing.T, name int, ax, was uint16) {
	t.Helper()
	want, flags := wantedDecimal(name, ax, was)
	got, f, ok := Decimal(name, ax, was)
	if got != want || f != flags || !ok {
		t.Fatalf("Decimal(%d, %#x, %#x) = %#x, %#x, %v, want %#x, %#x", name, ax, was, got, f, ok, want, flags)
	}
	if f&^api.FlagsSum != 0 {
		t.Fatalf("Decimal(%d, %#x, %#x): flags %#x", name, ax, was, f)
	}
}

func TestDecimalOfDrawn(t *testing.T) {
	d := drawer(24680)
	for range 100000 {
		ax, was := d.word(), d.word()
		for _, name := range decimalNames() {
			checkDecimal(t, name, ax, was)
		}
	}
}

func TestDecimalByHand(t *testing.T) {
	const c, p, a, z, s, o = flagC, flagP, flagA, flagZ, flagS, flagO
	for _, h := range []struct {
		name    int
		ax, was uint16
		to, f   uint16
	}{
		{api.AAA, 0x0009, 0, 0x0009, 0},
		{api.AAA, 0x000a, 0, 0x0100, c | a},
		{api.AAA, 0x0009, a, 0x010f, c | a},
		{api.AAA, 0x0009, c, 0x0009, 0},
		{api.AAA, 0x0012, a, 0x0108, c | a},
		{api.AAA, 0x0039, p | z | s | o, 0x0009, p | z | s | o},
		{api.AAA, 0x00f9, 0, 0x0009, 0},
		{api.AAA, 0x00fa, 0, 0x0100, c | a},
		{api.AAA, 0x00ff, 0xffff, 0x0105, c | p | a | z | s | o},
		{api.AAA, 0xff0a, 0, 0x0000, c | a},
		{api.AAS, 0x0009, 0, 0x0009, 0},
		{api.AAS, 0x010a, 0, 0x0004, c | a},
		{api.AAS, 0x01ff, a | c, 0x0009, c | a},
		{api.AAS, 0x0000, a, 0xff0a, c | a},
		{api.AAS, 0x0200, a, 0x010a, c | a},
		{api.AAS, 0x0055, c | z, 0x0005, z},
		{api.AAS, 0x00fe, s | p | a | c, 0xff08, c | a | s | p},
		{api.DAA, 0x0000, 0, 0x0000, z | p},
		{api.DAA, 0x0009, 0, 0x0009, p},
		{api.DAA, 0x000a, 0, 0x0010, a},
		{api.DAA, 0x0099, 0, 0x0099, s | p},
		{api.DAA, 0x009a, 0, 0x0000, c | a | z | p},
		{api.DAA, 0x00a0, 0, 0x0000, c | z | p},
		{api.DAA, 0x0090, c, 0x00f0, c | s | p},
		{api.DAA, 0x12ff, c | a, 0x1265, c | a | p},
		{api.DAA, 0x0032, c | a | o, 0x0098, c | a | s | o},
		{api.DAA, 0xff03, a, 0xff09, a | p},
		{api.DAA, 0x00fa, 0, 0x0060, c | a | p},
		{api.DAS, 0x0000, 0, 0x0000, z | p},
		{api.DAS, 0x000a, 0, 0x0004, a},
		{api.DAS, 0x0099, 0, 0x0099, s | p},
		{api.DAS, 0x009a, 0, 0x0034, c | a},
		{api.DAS, 0x00a0, 0, 0x0040, c},
		{api.DAS, 0x0005, a, 0x00ff, a | s | p},
		{api.DAS, 0x0000, c, 0x00a0, c | s | p},
		{api.DAS, 0x34ff, c | a | o, 0x3499, c | a | s | p | o},
		{api.DAS, 0x0066, c | a, 0x0000, c | a | z | p},
	} {
		to, f, ok := Decimal(h.name, h.ax, h.was)
		if to != h.to || f != h.f || !ok {
			t.Errorf("Decimal(%d, %#x, %#x) = %#x, %#x, %v, want %#x, %#x", h.name, h.ax, h.was, to, f, ok, h.to, h.f)
		}
	}
}

func TestDecimalOfOtherNames(t *testing.T) {
	for _, name := range append(otherNames(decimalNames()...), adjustNames()...) {
		for _, ax := range []uint16{0, 9, 0x0a, 0x9a, 0x0100, 0xffff} {
			for _, was := range befores() {
				if to, f, ok := Decimal(name, ax, was); to != 0 || f != 0 || ok {
					t.Fatalf("Decimal(%d, %#x, %#x) = %#x, %#x, %v, want 0, 0, false", name, ax, was, to, f, ok)
				}
			}
		}
	}
}

// step is a sum of bytes by alu's Do, and what Decimal makes of it.
func step(t *testing.T, sum, decimal int, ah, a, b, was uint16) (uint16, uint16) {
	t.Helper()
	v, f, ok := alu.Do(sum, a, b, was&flagC != 0, false)
	if !ok {
		t.Fatalf("alu knows no %d", sum)
	}
	ax, f, ok := Decimal(decimal, ah<<8|v, f)
	if !ok {
		t.Fatalf("Decimal knows no %d", decimal)
	}
	return ax, f
}

// carryOf is C of flags as a number.
func carryOf(f uint16) int { return int(f & flagC) }

// round is a number from 0 on below another one, as far round as it goes, and 1 if it went round.
func round(n, many int) (int, int) {
	in := (n + many) % many
	if in != n {
		return in, 1
	}
	return in, 0
}

// ways are adding and taking away: the sums, and what is done behind them to one digit and to two.
func ways() []struct{ sum, one, two, sign int } {
	return []struct{ sum, one, two, sign int }{
		{api.ADC, api.AAA, api.DAA, 1},
		{api.SBB, api.AAS, api.DAS, -1},
	}
}

func TestOneDigitAddedAndTakenAway(t *testing.T) {
	for _, w := range ways() {
		for n := range 10 * 10 * 2 {
			x, y, came := n/20, n/2%10, n%2
			digit, out := round(x+w.sign*(y+came), 10)
			for _, ah := range wheres() {
				ax, f := step(t, w.sum, w.one, ah, uint16(x), uint16(y), uint16(came))
				want := (int(ah)+w.sign*out+256)%256*256 + digit
				if int(ax) != want || carryOf(f) != out {
					t.Fatalf("%d, %d, %d by %d: %#x, %#x, want %#x", x, y, came, w.one, ax, f, want)
				}
			}
		}
	}
}

func TestTwoDigitsAddedAndTakenAwayDigitByDigit(t *testing.T) {
	for _, w := range ways() {
		for n := range 100 * 100 * 2 {
			x, y, came := n/200, n/2%100, n%2
			want, out := round(x+w.sign*(y+came), 100)
			low, f := step(t, w.sum, w.one, 0, uint16(x%10), uint16(y%10), uint16(came))
			high, f := step(t, w.sum, w.one, 0, uint16(x/10), uint16(y/10), f)
			if got := int(high%256*10 + low%256); got != want || carryOf(f) != out {
				t.Fatalf("%d, %d, %d by %d: %d, %#x, want %d", x, y, came, w.one, got, f, want)
			}
		}
	}
}

// packed is a number below 100 as two digits of four bits.
func packed(n int) uint16 { return uint16(n/10*16 + n%10) }

func TestTwoDigitsOfAByteAddedAndTakenAway(t *testing.T) {
	for _, w := range ways() {
		for n := range 100 * 100 * 2 {
			x, y, came := n/200, n/2%100, n%2
			want, out := round(x+w.sign*(y+came), 100)
			ax, f := step(t, w.sum, w.two, 0x5a, packed(x), packed(y), uint16(came))
			if ax != 0x5a00|packed(want) || carryOf(f) != out {
				t.Fatalf("%d, %d, %d by %d: %#x, %#x, want %d", x, y, came, w.two, ax, f, want)
			}
		}
	}
}

func TestFourDigitsAddedAndTakenAwayByteByByte(t *testing.T) {
	d := drawer(11223)
	for range 20000 {
		x, y := int(d.word())%10000, int(d.word())%10000
		for _, w := range ways() {
			want, out := round(x+w.sign*y, 10000)
			low, f := step(t, w.sum, w.two, 0, packed(x%100), packed(y%100), 0)
			high, f := step(t, w.sum, w.two, 0, packed(x/100), packed(y/100), f)
			if low != packed(want%100) || high != packed(want/100) || carryOf(f) != out {
				t.Fatalf("%d, %d by %d: %#x, %#x, %#x, want %d", x, y, w.two, high, low, f, want)
			}
		}
	}
}

// wantedAdjust is what Adjust should tell, by the chapter's words.
func wantedAdjust(name int, ax, was uint16) (uint16, uint16) {
	al, ah := int(ax%256), int(ax/256)
	if name == api.AAM {
		al, ah = al%10, al/10
	} else {
		al, ah = (al+10*ah)%256, 0
	}
	return uint16(ah*256 + al), was&(flagC|flagA|flagO) | signsOf(al)
}

// checkAdjust holds Adjust against what is wanted.
func checkAdjust(t *testing.T, name int, ax, was uint16) {
	t.Helper()
	want, flags := wantedAdjust(name, ax, was)
	got, f, ok := Adjust(name, ax, was)
	if got != want || f != flags || !ok {
		t.Fatalf("Adjust(%d, %#x, %#x) = %#x, %#x, %v, want %#x, %#x", name, ax, was, got, f, ok, want, flags)
	}
}

func TestAdjustOfAll(t *testing.T) {
	for _, name := range adjustNames() {
		for ax := range 1 << 16 {
			checkAdjust(t, name, uint16(ax), 0)
			checkAdjust(t, name, uint16(ax), 0xffff)
		}
	}
}

func TestAdjustWithEachFlagThatWas(t *testing.T) {
	for _, name := range adjustNames() {
		for _, ax := range words(300) {
			for _, was := range befores() {
				checkAdjust(t, name, ax, was)
			}
		}
	}
}

func TestAdjustByHand(t *testing.T) {
	const c, p, a, z, s, o = flagC, flagP, flagA, flagZ, flagS, flagO
	for _, h := range []struct {
		name    int
		ax, was uint16
		to, f   uint16
	}{
		{api.AAM, 0x0000, 0, 0x0000, z | p},
		{api.AAM, 0x0009, 0, 0x0009, p},
		{api.AAM, 0x000a, c, 0x0100, c | z | p},
		{api.AAM, 0x0063, a | s, 0x0909, a | p},
		{api.AAM, 0x0064, o, 0x0a00, o | z | p},
		{api.AAM, 0x00ff, 0xffff, 0x1905, c | a | o | p},
		{api.AAM, 0x7711, 0, 0x0107, 0},
		{api.AAD, 0x0000, 0, 0x0000, z | p},
		{api.AAD, 0x0909, 0, 0x0063, p},
		{api.AAD, 0x0100, c | a | o, 0x000a, c | a | o | p},
		{api.AAD, 0x0d00, z, 0x0082, s | p},
		{api.AAD, 0x1906, 0, 0x0000, z | p},
		{api.AAD, 0xffff, 0, 0x00f5, s | p},
		{api.AAD, 0x8000, p, 0x0000, z | p},
		{api.AAD, 0x00ff, s | z, 0x00ff, s | p},
	} {
		to, f, ok := Adjust(h.name, h.ax, h.was)
		if to != h.to || f != h.f || !ok {
			t.Errorf("Adjust(%d, %#x, %#x) = %#x, %#x, %v, want %#x, %#x", h.name, h.ax, h.was, to, f, ok, h.to, h.f)
		}
	}
}

func TestDigitsMultipliedAndDivided(t *testing.T) {
	for x := range uint16(10) {
		for y := range uint16(10) {
			low, _, _ := Mul(api.MUL, x, y, false)
			digits, _, _ := Adjust(api.AAM, low, 0)
			if digits != x*y/10<<8|x*y%10 {
				t.Fatalf("%d times %d: %#x", x, y, digits)
			}
			back, _, _ := Adjust(api.AAD, digits, 0)
			if back != x*y {
				t.Fatalf("the digits %#x: %d, want %d", digits, back, x*y)
			}
		}
	}
}

func TestAdjustOfOtherNames(t *testing.T) {
	for _, name := range append(otherNames(adjustNames()...), decimalNames()...) {
		for _, ax := range []uint16{0, 9, 0x0a, 0x63, 0x0909, 0xffff} {
			for _, was := range befores() {
				if to, f, ok := Adjust(name, ax, was); to != 0 || f != 0 || ok {
					t.Fatalf("Adjust(%d, %#x, %#x) = %#x, %#x, %v, want 0, 0, false", name, ax, was, to, f, ok)
				}
			}
		}
	}
}
