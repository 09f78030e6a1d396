package bits

import (
	"fmt"
	"math"
	"strings"
	"testing"
)

func TestSign(t *testing.T) {
	for b := range 256 {
		want := uint16(b)
		if b >= 128 {
			want = uint16(b + 0xff00)
		}
		if got := Sign(byte(b)); got != want {
			t.Errorf("Sign(%#x) = %#x, want %#x", b, got, want)
		}
	}
}

func TestLowHighWord(t *testing.T) {
	if Low(0x1a2b) != 0x2b || High(0x1a2b) != 0x1a || Word(0x2b, 0x1a) != 0x1a2b {
		t.Errorf("1A2B is %#x and %#x, together %#x", Low(0x1a2b), High(0x1a2b), Word(0x2b, 0x1a))
	}
	for w := range 1 << 16 {
		low, high := Low(uint16(w)), High(uint16(w))
		if int(low) != w%256 || int(high) != w/256 {
			t.Fatalf("bytes of %#x: %#x, %#x", w, low, high)
		}
		if got := Word(low, high); int(got) != w {
			t.Fatalf("Word(%#x, %#x) = %#x", low, high, got)
		}
	}
}

func TestFits(t *testing.T) {
	for w := range 1 << 16 {
		want := w <= 0x7f || w >= 0xff80
		if got := Fits(uint16(w)); got != want {
			t.Errorf("Fits(%#x) = %v", w, got)
		}
	}
}

func TestEven(t *testing.T) {
	for b := range 256 {
		want := strings.Count(fmt.Sprintf("%b", b), "1")%2 == 0
		if got := Even(byte(b)); got != want {
			t.Errorf("Even(%#x) = %v", b, got)
		}
	}
}

func TestLinear(t *testing.T) {
	for _, c := range []struct {
		seg, off uint16
		want     uint32
	}{
		{0, 0, 0},
		{0, 0xffff, 0xffff},
		{0x1234, 0x0005, 0x12345},
		{0x1234, 0xabcd, 0x1cf0d},
		{0xf000, 0xffff, 0xfffff},
		{0xffff, 0x000f, 0xfffff},
		{0xffff, 0x0010, 0},
		{0xffff, 0x0011, 1},
		{0xffff, 0xffff, 0xffef},
		{0xf001, 0xffff, 0xf},
	} {
		if got := Linear(c.seg, c.off); got != c.want {
			t.Errorf("Linear(%#x, %#x) = %#x, want %#x", c.seg, c.off, got, c.want)
		}
	}
}

func TestNormal(t *testing.T) {
	for _, c := range []struct {
		at       uint32
		seg, off uint16
	}{
		{0, 0, 0},
		{15, 0, 15},
		{16, 1, 0},
		{0x12345, 0x1234, 5},
		{0xfffff, 0xffff, 15},
		{0x100000, 0, 0},
		{0x100001, 0, 1},
		{0x10ffef, 0x0ffe, 15},
		{0x1fffff, 0xffff, 15},
		{0x200010, 1, 0},
		{math.MaxUint32, 0xffff, 15},
	} {
		seg, off := Normal(c.at)
		if seg != c.seg || off != c.off {
			t.Errorf("Normal(%#x) = %#x, %#x, want %#x, %#x", c.at, seg, off, c.seg, c.off)
		}
	}
}

func TestNormalOfLinearIsTheSamePlace(t *testing.T) {
	for at := uint32(0); at < 1<<20; at += 7 {
		seg, off := Normal(at)
		if off > 15 || Linear(seg, off) != at {
			t.Fatalf("Normal(%#x) = %#x, %#x, at %#x", at, seg, off, Linear(seg, off))
		}
	}
}

func TestParas(t *testing.T) {
	for _, c := range []struct{ n, want int }{
		{math.MinInt, 0}, {-17, 0}, {-16, 0}, {-1, 0}, {0, 0},
		{1, 1}, {15, 1}, {16, 1}, {17, 2}, {32, 2}, {33, 3},
		{1 << 20, 1 << 16}, {1<<20 + 1, 1<<16 + 1},
		{math.MaxInt32, 1 << 27}, {math.MaxInt, math.MaxInt/16 + 1},
	} {
		if got := Paras(c.n); got != c.want {
			t.Errorf("Paras(%d) = %d, want %d", c.n, got, c.want)
		}
	}
}

func TestUp(t *testing.T) {
	for _, c := range []struct{ n, step, want int }{
		{0, 16, 0}, {1, 16, 16}, {15, 16, 16}, {16, 16, 16}, {17, 16, 32},
		{5, 1, 5}, {5, 2, 6}, {6, 2, 6}, {257, 256, 512},
		{1, 4096, 4096}, {4096, 4096, 4096}, {4097, 4096, 8192},
		{0, 1, 0}, {0, 4096, 0}, {-1, 16, 0}, {-1, 1, 0}, {-17, 3, 0}, {math.MinInt, 4096, 0},
		{1<<24 - 1, 1, 1<<24 - 1}, {1<<24 - 1, 2, 1 << 24}, {1<<24 - 4095, 4096, 1 << 24},
		{1 << 24, 1, 1 << 24}, {1 << 24, 4096, 1 << 24},
		{1<<24 + 1, 1, 1 << 24}, {1<<24 + 1, 16, 1 << 24}, {math.MaxInt, 4096, 1 << 24},
	} {
		if got := Up(c.n, c.step); got != c.want {
			t.Errorf("Up(%d, %d) = %d, want %d", c.n, c.step, got, c.want)
		}
	}
}

func TestUpIsTheLeastMultiple(t *testing.T) {
	for step := 1; step <= 4096; step *= 2 {
		for n := range 3*4096 + 1 {
			want := n
			for want%step != 0 {
				want++
			}
			if got := Up(n, step); got != want {
				t.Fatalf("Up(%d, %d) = %d, want %d", n, step, got, want)
			}
		}
	}
}

func TestUpByStepsThatCountAsOne(t *testing.T) {
	power := func(step int) bool {
		for p := 1; p <= 4096; p *= 2 {
			if step == p {
				return true
			}
		}
		return false
	}
	for step := -5000; step <= 20000; step++ {
		if power(step) {
			continue
		}
		if got := Up(12345, step); got != 12345 {
			t.Errorf("Up(12345, %d) = %d", step, got)
		}
	}
	for _, step := range []int{math.MinInt, math.MinInt + 1, 1 << 24, 1 << 30, math.MaxInt} {
		if got := Up(17, step); got != 17 {
			t.Errorf("Up(17, %d) = %d", step, got)
		}
		if got := Up(math.MaxInt, step); got != 1<<24 {
			t.Errorf("Up of the greatest number by %d = %d", step, got)
		}
	}
}

func TestDigits(t *testing.T) {
	for _, c := range []struct {
		n    uint32
		many int
		want string
	}{
		{0x1a2b, 4, "1A2B"},
		{0x1a2b, 1, "B"}, {0x1a2b, 2, "2B"}, {0x1a2b, 3, "A2B"}, {0x1a2b, 5, "01A2B"},
		{0x1a2b, 7, "0001A2B"}, {0x1a2b, 8, "00001A2B"},
		{0, 1, "0"}, {0, 8, "00000000"},
		{0x89abcdef, 8, "89ABCDEF"}, {0x01234567, 8, "01234567"}, {0x89abcdef, 6, "ABCDEF"},
		{math.MaxUint32, 1, "F"}, {math.MaxUint32, 8, "FFFFFFFF"},
		{0x1a2b, 0, "B"}, {0x1a2b, -1, "B"}, {0x1a2b, math.MinInt, "B"},
		{0x1a2b, 9, "00001A2B"}, {0x89abcdef, 16, "89ABCDEF"}, {0x1a2b, math.MaxInt, "00001A2B"},
	} {
		if got := Digits(c.n, c.many); got != c.want {
			t.Errorf("Digits(%#x, %d) = %q, want %q", c.n, c.many, got, c.want)
		}
	}
}
