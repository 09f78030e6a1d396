package lib

import (
	"math"
	"strings"
	"testing"

	"hansom/api"
)

func wantHash(t *testing.T, name string, blocks int, want Where) {
	t.Helper()
	if got := Hash(name, blocks); got != want {
		t.Fatalf("Hash(%q, %d) is %+v, want %+v", name, blocks, got, want)
	}
}

func TestHashByHand(t *testing.T) {
	for _, c := range []struct {
		name   string
		blocks int
		want   Where
	}{
		// Of no letters there is no step: all is 0, and the steps are 1.
		{"", 1, Where{0, 0, 1, 1}},
		{"", 7, Where{0, 0, 1, 1}},
		// A: one step, 21 forth and 61 back: block 21, bucket 61, block's step 61, bucket's step 21.
		{"A", 1, Where{0, 0x61 % 37, 1, 0x21}},
		{"A", 7, Where{0x21 % 7, 23, 0x61 % 7, 33}},
		{"A", 65521, Where{0x21, 23, 0x61, 33}},
		{"a", 65521, Where{0x21, 23, 0x61, 33}},
		// AB: 22 and 61 forth, 62 and 61 back: 88 xor 61; 8018 xor 61; 188 xor 61; 8008 xor 61.
		{"AB", 65521, Where{0xe9, 0x8079 % 37, 0x1e9, 0x8069 % 37}},
		{"Ab", 65521, Where{0xe9, 0x8079 % 37, 0x1e9, 0x8069 % 37}},
		{"ab", 5, Where{0xe9 % 5, 0x8079 % 37, 0x1e9 % 5, 0x8069 % 37}},
		{"BA", 65521, Where{0x88 ^ 0x62, (0x4018 ^ 0x62) % 37, 0x184 ^ 0x62, (0x8008 ^ 0x62) % 37}},
		// A byte that has the bit already, and ones above 7f, keep the others.
		{"\x00", 65521, Where{0x21, 0x20, 0x20, 33}},
		{" ", 65521, Where{0x21, 0x20, 0x20, 33}},
		{"\xff", 65521, Where{0x21, 0xff % 37, 0xff, 33}},
		{"\xdf", 65521, Where{0x21, 0xff % 37, 0xff, 33}},
		{"\x80", 65521, Where{0x21, 0xa0 % 37, 0xa0, 33}},
		// ABC: 23 61 62 forth: 8c xor 61 is ed, 3b4 xor 62; back 63 62 61: c018 xor 62 is c07a, b01e xor 61; 18c xor 62 is 1ee, 7b8 xor 61; 23: c008 xor 61 is c069, 701a xor 62.
		{"ABC", 65521, Where{0x3d6, 0xb07f % 37, 0x7d9, 0x7078 % 37}},
	} {
		wantHash(t, c.name, c.blocks, c.want)
	}
}

func TestHashOfFewerBlocksThanOne(t *testing.T) {
	for _, name := range []string{"", "A", "main", "\xff\x80", strings.Repeat("x", 255)} {
		one := Hash(name, 1)
		if one.Block != 0 || one.BlockD != 1 {
			t.Errorf("Hash(%q, 1) is %+v", name, one)
		}
		for _, blocks := range []int{0, -1, -2, -37, -65536, math.MinInt32, math.MinInt} {
			wantHash(t, name, blocks, one)
		}
	}
}

// TestHashStepsOfNought has names whose steps would be 0.
func TestHashStepsOfNought(t *testing.T) {
	// 25 (hex) is 37: of five letters a step that turns nothing is not to be had; one letter's block's step is itself, with 20.
	wantHash(t, "\x25", 37, Where{0x21, 0, 1, 33})
	wantHash(t, "a", 97, Where{0x21, 23, 1, 33})
	wantHash(t, "a", 98, Where{0x21, 23, 97, 33})
	wantHash(t, "a", 96, Where{0x21, 23, 1, 33})
	wantHash(t, "a", 33, Where{0, 23, 97 % 33, 33})
	blocks, buckets := 0, 0
	d := drawer(271)
	for range 20000 {
		name := d.text(1 + d.below(6))
		w, v := turnedModel(name), Hash(name, 13)
		if w.BlockD%13 == 0 {
			blocks++
			if v.BlockD != 1 {
				t.Fatalf("Hash(%q, 13) is %+v", name, v)
			}
		}
		if w.BuckD%37 == 0 {
			buckets++
			if v.BuckD != 1 {
				t.Fatalf("Hash(%q, 13) is %+v", name, v)
			}
		}
	}
	if blocks == 0 || buckets == 0 {
		t.Errorf("%d and %d steps of 0 were met", blocks, buckets)
	}
}

func TestHashBesideItsModel(t *testing.T) {
	d := drawer(272)
	counts := []int{1, 2, 3, 4, 5, 7, 11, 13, 36, 37, 38, 97, 255, 256, 257, 1009, 32768, 65521, 65535, 65536, 65537, 1 << 20, math.MaxInt32, math.MaxInt}
	for many := range 256 {
		for range 4 {
			name := d.text(many)
			w := turnedModel(name)
			for _, blocks := range counts {
				wantHash(t, name, blocks, amongModel(w, blocks))
			}
		}
	}
}

// TestHashOfEachLetter has each byte at each place of a short name.
func TestHashOfEachLetter(t *testing.T) {
	for at := range 4 {
		for one := range 256 {
			b := []byte("wxyz")
			b[at] = byte(one)
			wantHash(t, string(b), 65536, whereModel(string(b), 65536))
			other := []byte("WXYZ")
			other[at] = byte(one) ^ 0x20
			wantHash(t, string(other), 65536, whereModel(string(b), 65536))
		}
	}
}

func TestHashOfLongNames(t *testing.T) {
	d := drawer(273)
	name := d.text(api.MostName)
	wantHash(t, name, 11, whereModel(name, 11))
	if Hash(name, 65536) == Hash(name[1:], 65536) || Hash(name, 65536) == Hash(name[:254], 65536) {
		t.Error("a name's first and last letter don't count")
	}
	// Longer names stand in no dictionary; a place they have all the same.
	for _, many := range []int{256, 257, 300, 511, 512, 65535, 65536, 1 << 20} {
		w := Hash(d.text(many), 11)
		if w.Block < 0 || w.Block > 10 || w.BlockD < 1 || w.BlockD > 10 || w.Bucket < 0 || w.Bucket > 36 || w.BuckD < 1 || w.BuckD > 36 {
			t.Errorf("of %d letters: %+v", many, w)
		}
	}
}
