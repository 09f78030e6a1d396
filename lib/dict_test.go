package lib

import (
	"bytes"
	"fmt"
	"strings"
	"testing"

	"hansom/api"
)

// written is a library of names, of which a module gives so many at most, and the page of each.
func written(t testing.TB, names []string, each, page int) ([]byte, map[string]int) {
	t.Helper()
	l := giveAll(names, each)
	b := mustWrite(t, l, page)
	pages := map[string]int{}
	at := page
	for _, m := range l {
		for _, p := range m.Pubs {
			pages[p.Name] = at / page
		}
		for at += page; !bytes.HasPrefix(b[at:], []byte{0x80, 2, 0, 0}) && b[at] != 0xf1; at += page {
		}
	}
	return b, pages
}

// variants is so many names that differ in small and great letters alone: they have one place.
func variants(word string, many int) []string {
	var l []string
	for n := range many {
		b := []byte(word)
		for i := range b {
			if n>>i&1 == 1 {
				b[i] ^= 0x20
			}
		}
		l = append(l, string(b))
	}
	return l
}

// blocksOf is a library's dictionary.
func blocksOf(t testing.TB, b []byte) [][]byte {
	t.Helper()
	x := mustRead(t, b)
	var l [][]byte
	for n := x.Blocks(); n > 0; n-- {
		l = append(l, b[len(b)-512*n:][:512])
	}
	return l
}

func wantBlocks(t testing.TB, what string, names []string, want int) []byte {
	t.Helper()
	b, pages := written(t, names, 200, 32)
	x := mustRead(t, b)
	if x.Blocks() != want {
		t.Fatalf("%s: %d blocks, want %d", what, x.Blocks(), want)
	}
	for _, name := range names {
		wantFind(t, x, name, pages[name])
	}
	return b
}

func TestDictionaryOfAsManyNamesAsBuckets(t *testing.T) {
	d := drawer(275)
	for range 20 {
		names := d.names(75, 0, 3)
		wantBlocks(t, "36 names", names[:36], 1)
		b := wantBlocks(t, "37 names", names[:37], 1)
		for _, at := range b[len(b)-512:][:37] {
			if at == 0 {
				t.Fatal("a bucket is free")
			}
		}
		wantBlocks(t, "38 names", names[:38], 2)
		wantBlocks(t, "74 names", names[:74], 2)
		wantBlocks(t, "75 names", names[:75], 3)
	}
}

// TestDictionaryOfAsManyBytesAsRoom: names have room up to 510, which a byte tells as ff.
func TestDictionaryOfAsManyBytesAsRoom(t *testing.T) {
	x := func(c string, many int) string { return strings.Repeat(c, many) }
	// 38, 274, 510.
	for _, names := range [][]string{{x("a", 233), x("b", 233)}, {x("a", 232), x("b", 233)}, {x("a", 232), x("b", 232)}, {x("a", 255), x("b", 206), ""}, {x("a", 255), x("b", 211)}} {
		b := wantBlocks(t, "just so", names, 1)
		if block := b[len(b)-512:]; block[37] != 0xff || block[510] != 0 || block[511] != 0 {
			t.Errorf("a block that has room for no more ends with % x, and has %x", block[500:], block[37])
		}
	}
	// One letter more, or a name of none.
	for _, names := range [][]string{{x("a", 233), x("b", 234)}, {x("a", 234), x("b", 233)}, {x("a", 233), x("b", 235)}, {x("a", 233), x("b", 233), ""}, {"", x("a", 233), x("b", 233)}, {x("a", 255), x("b", 213)}, {x("a", 255), x("b", 212)}, {x("a", 255), x("b", 255)}} {
		wantBlocks(t, "one more", names, 2)
	}
	// One fewer: 508, where a name has no room any more.
	b := wantBlocks(t, "one fewer", []string{x("a", 233), x("b", 231)}, 1)
	if b[len(b)-512+37] != 0xfe {
		t.Errorf("free at %x", b[len(b)-512+37])
	}
	wantBlocks(t, "a name of none behind one fewer", []string{x("a", 233), x("b", 231), ""}, 2)
	wantBlocks(t, "a name of none behind two fewer", []string{x("a", 233), x("b", 229), ""}, 1)
}

// inBlock is a name of so many letters, whose block of so many is one, and that begins with a letter.
func inBlock(t testing.TB, first string, many, blocks, block int) string {
	t.Helper()
	for n := range 2000 {
		name := first + strings.Repeat("x", many-5) + fmt.Sprintf("%04d", n)
		if whereModel(name, blocks).Block == block {
			return name
		}
	}
	t.Fatal("there is no such name")
	return ""
}

// TestDictionaryFullBlock has a block with free buckets, but without room for a name: it is full then, even for a name that would have room.
func TestDictionaryFullBlock(t *testing.T) {
	a, b, c := inBlock(t, "a", 200, 2, 0), inBlock(t, "b", 200, 2, 0), inBlock(t, "c", 200, 2, 0)
	small, other := inBlock(t, "d", 5, 2, 0), inBlock(t, "e", 5, 2, 1)
	bytes := wantBlocks(t, "a full block", []string{a, b, c, small, other}, 2)
	l := blocksOf(t, bytes)
	entry := func(name string) string { return string([]byte{byte(len(name))}) + name + "\x01\x00" }
	wantNames := func(n int, want string) {
		t.Helper()
		if got := string(l[n][38 : 38+len(want)]); got != want {
			t.Errorf("block %d has %q, want %q", n, got, want)
		}
	}
	// Two of 203 bytes, each with a nought behind it.
	wantNames(0, entry(a)+"\x00"+entry(b)+"\x00\x00\x00\x00")
	wantNames(1, entry(c)+"\x00"+entry(small)+entry(other)+"\x00\x00\x00\x00")
	if l[0][37] != 0xff || l[1][37] != (38+204+8+8)/2 {
		t.Errorf("free at %x and %x", l[0][37], l[1][37])
	}
	x := mustRead(t, bytes)
	for range 50 {
		// What would stand in the full block is sought in the next one, and isn't there.
		wantFind(t, x, inBlock(t, "f", 6, 2, 0), 0)
		wantFind(t, x, inBlock(t, "f", 6, 2, 1), 0)
	}
	// Ahead of what has no room, it has some.
	bytes = wantBlocks(t, "the small one first", []string{small, a, b, c, other}, 2)
	l = blocksOf(t, bytes)
	wantNames(0, entry(small)+entry(a)+"\x00"+entry(b)+"\x00\x00\x00\x00")
	wantNames(1, entry(c)+"\x00"+entry(other)+"\x00\x00\x00\x00")
}

// TestDictionaryNoFreeBucket: a block without a free bucket is none that is full, and its byte stays.
func TestDictionaryNoFreeBucket(t *testing.T) {
	names := variants("abcdefg", 45)
	b := wantBlocks(t, "variants", names, 2)
	l := blocksOf(t, b)
	w := whereModel("abcdefg", 2)
	if got, want := l[w.Block][37], byte((38+37*10)/2); got != want {
		t.Errorf("free at %x, want %x", got, want)
	}
	if got, want := l[1-w.Block][37], byte((38+8*10)/2); got != want {
		t.Errorf("free at %x, want %x", got, want)
	}
}

// TestDictionaryOfOnePlace has names that meet in one place: bucket by bucket, beyond the last one, and block by block, beyond the last one.
func TestDictionaryOfOnePlace(t *testing.T) {
	beyond := 0
	for word, blocks := range map[string]int{"abcdefgh": 7, "qrstuvwx": 7, "hansom": 2, "klm": 1, "qwertyui": 5, "zyxwvuts": 3} {
		many := min(1<<len(word), 37*blocks)
		names := variants(word, many)
		l := blocksOf(t, wantBlocks(t, word, names, blocks))
		w := whereModel(word, blocks)
		for i, name := range names {
			// 37 by 37 in a block; the steps of both are counted on and on.
			block := l[(w.Block+i/37*w.BlockD)%blocks]
			at := 2 * int(block[(w.Bucket+i%37*w.BuckD)%37])
			if want := 38 + i%37*((len(name)+4)/2*2); at != want || string(block[at+1:at+1+len(name)]) != name {
				t.Fatalf("%s, %d: at %d, want %d", word, i, at, want)
			}
		}
		if w.Block+(blocks-1)*w.BlockD >= 2*blocks {
			beyond++
		}
	}
	if beyond == 0 {
		t.Error("no word goes beyond the last block more than once")
	}
}

// TestDictionaryBesideItsModel has drawn names, of few letters and of many.
func TestDictionaryBesideItsModel(t *testing.T) {
	d := drawer(276)
	for _, c := range []struct{ many, least, most, rounds int }{
		{5, 0, 8, 40}, {36, 0, 6, 20}, {40, 0, 12, 40}, {80, 2, 20, 20}, {60, 0, 255, 20}, {30, 200, 255, 20}, {12, 100, 255, 40}, {25, 150, 160, 30},
		{150, 0, 2, 8}, {400, 1, 12, 3}, {300, 0, 60, 3}, {250, 0, 255, 3}, {1200, 2, 4, 1}, {100, 90, 120, 10},
	} {
		for range c.rounds {
			l := giveAll(d.names(c.many, c.least, c.most), 1+d.below(200))
			what := fmt.Sprintf("%d names", c.many)
			wantBytes(t, what, mustWrite(t, l, 16), libraryModel(t, l, 16))
		}
	}
}

// TestDictionaryHasAPrimeNumber: or one block; fewer would not do.
func TestDictionaryHasAPrimeNumber(t *testing.T) {
	d := drawer(277)
	met := map[int]int{}
	for many := 1; many < 1100; many += 1 + many/20 {
		b, _ := written(t, d.names(many, 2, 3), 250, 64)
		n := mustRead(t, b).Blocks()
		met[n]++
		if n != 1 && !prime(n) {
			t.Errorf("%d names: %d blocks", many, n)
		}
		if n*37 < many {
			t.Errorf("%d names in %d blocks", many, n)
		}
	}
	for _, n := range []int{1, 2, 3, 5, 7, 11, 13, 17, 19, 23} {
		if met[n] == 0 {
			t.Errorf("%d blocks were not met", n)
		}
	}
}

// TestDictionaryPagesAreWords has a module on a page above ff, and on the last one.
func TestDictionaryPagesAreWords(t *testing.T) {
	for _, page := range []int{2, 255, 256, 257, 0x1234, 32767, 32768, 65534} {
		b := mustWrite(t, []api.Module{sized(t, 16*(page-1)), gives("X")}, 16)
		want := madeBlock(map[int]byte{9: 0x13}, 0x15, fmt.Sprintf("01 58 %02x %02x", page%256, page/256))
		wantBytes(t, "the dictionary", b[len(b)-512:], want)
		wantFind(t, mustRead(t, b), "X", page)
		wantModule(t, mustRead(t, b), page, gives("X"))
	}
}

// TestDictionaryOfMostNames has as many names as modules have room for.
func TestDictionaryOfMostNames(t *testing.T) {
	d := drawer(278)
	for _, most := range []int{3, 255} {
		names := d.names(60000*3/(most+15), most, most)
		b, pages := written(t, names, 256, 4096)
		x := mustRead(t, b)
		if x.Blocks() < len(names)*((most+4)/2*2)/472 {
			t.Errorf("%d names in %d blocks", len(names), x.Blocks())
		}
		for _, name := range names {
			wantFind(t, x, name, pages[name])
		}
	}
}
