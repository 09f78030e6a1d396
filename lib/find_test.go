package lib

import (
	"fmt"
	"math"
	"strings"
	"testing"

	"hansom/api"
	"hansom/omf"
)

// TestFindAllAndNone asks for each name that a module gives, and for others, in dictionaries of one block and of several.
func TestFindAllAndNone(t *testing.T) {
	d := drawer(281)
	for _, many := range []int{0, 1, 5, 37, 38, 100, 150, 400, 1000} {
		names := d.names(2*many+50, 1, 12)
		b, pages := written(t, names[:many], 77, 64)
		x := mustRead(t, b)
		for _, name := range names[:many] {
			wantFind(t, x, name, pages[name])
		}
		for _, name := range names[many:] {
			wantFind(t, x, name, 0)
		}
		wantFind(t, x, "", 0)
		for _, long := range []int{255, 256, 257, 511, 512, 600, 65536, 1 << 20} {
			wantFind(t, x, strings.Repeat("x", long), 0)
		}
	}
}

// TestFindNoOthersLetters asks for names that are nearly one.
func TestFindNoOthersLetters(t *testing.T) {
	for _, name := range []string{"X", "main", "_start", "\x00", "a b", strings.Repeat("y", 255)} {
		x := mustRead(t, mustWrite(t, []api.Module{{}, gives(name)}, 512))
		wantFind(t, x, name, 2)
		wantFind(t, x, name[1:], 0)
		wantFind(t, x, name[:len(name)-1], 0)
		wantFind(t, x, name+name[:1], 0)
		wantFind(t, x, name+"\x00", 0)
		for i := range len(name) {
			b := []byte(name)
			b[i] ^= 0x20
			wantFind(t, x, string(b), 0)
			b[i] ^= 0x21
			wantFind(t, x, string(b), 0)
		}
	}
}

// TestFindLongNames: a name that has more letters than may be isn't the one that it begins with.
func TestFindLongNames(t *testing.T) {
	name := strings.Repeat("z", 255)
	x := mustRead(t, mustWrite(t, []api.Module{gives(name, "")}, 16))
	wantFind(t, x, name, 1)
	wantFind(t, x, "", 1)
	for _, more := range []int{1, 2, 3, 255, 256, 257, 512, 1000} {
		wantFind(t, x, name+strings.Repeat("z", more), 0)
		wantFind(t, x, strings.Repeat("\x00", 255+more), 0)
	}
}

// TestFindLongNamesAmongAllBuckets: they are none of those that stand there, wherever they are sought.
func TestFindLongNamesAmongAllBuckets(t *testing.T) {
	name := strings.Repeat("z", 255)
	names := []string{name}
	for one := range byte(36) {
		names = append(names, string([]byte{one}))
	}
	x := mustRead(t, mustWrite(t, []api.Module{gives(names...)}, 16))
	if x.Blocks() != 1 {
		t.Fatalf("%d blocks", x.Blocks())
	}
	wantFind(t, x, name, 1)
	for more := 1; more < 300; more++ {
		wantFind(t, x, name+strings.Repeat("z", more), 0)
	}
}

func TestFindNoLetters(t *testing.T) {
	x := mustRead(t, mustWrite(t, []api.Module{gives("a", "b"), gives("")}, 512))
	wantFind(t, x, "", 2)
	x = mustRead(t, mustWrite(t, []api.Module{gives("a", "b")}, 512))
	wantFind(t, x, "", 0)
}

// made is a library of a first page and of blocks that are told.
func made(blocks ...[]byte) []byte {
	return joined(upTo(512, head(0xf0, 13, 512, uint16(len(blocks)), 1)), joined(blocks...))
}

// all is all buckets, telling one place.
func all(at byte) map[int]byte {
	m := map[int]byte{}
	for n := range 37 {
		m[n] = at
	}
	return m
}

// TestFindInFullBlocks: nothing is found, and it ends.
func TestFindInFullBlocks(t *testing.T) {
	other := "01 51 0700"
	for _, c := range []struct {
		what string
		b    []byte
	}{
		{"one, full and without names", madeBlock(nil, 0xff, "")},
		{"one, full and of one name", madeBlock(all(0x13), 0xff, other)},
		{"one, without a free bucket", madeBlock(all(0x13), 0x15, other)},
	} {
		for _, many := range []int{1, 2, 3, 4, 6, 12, 30, 210, 4000} {
			l := make([][]byte, many)
			for i := range l {
				l[i] = c.b
			}
			x := mustRead(t, made(l...))
			for _, name := range append(drawnNames(10), "X", "", "QQ") {
				wantFind(t, x, name, 0)
			}
			if want := findModel(joined(l...), "Q"); x.Find("Q") != want {
				t.Errorf("%s, %d blocks: Find is %d, want %d", c.what, many, x.Find("Q"), want)
			}
		}
	}
}

// TestFindStepByStep has a name in each bucket and in each block that it may stand in, with others ahead of it.
func TestFindStepByStep(t *testing.T) {
	for _, name := range []string{"X", "name", "hansom"} {
		entry := fmt.Sprintf("%02x %x 3412", len(name), name)
		for _, many := range []int{1, 2, 3, 5, 7, 11} {
			w := whereModel(name, many)
			for k := range 37 * many {
				l := make([][]byte, many)
				for i := range l {
					l[i] = madeBlock(nil, 0x30, "00 5555 00"+entry)
				}
				for j := range k {
					// Blocks ahead are taken by another one's name.
					l[(w.Block+j/37*w.BlockD)%many][(w.Bucket+j%37*w.BuckD)%37] = 0x13
				}
				block := l[(w.Block+k/37*w.BlockD)%many]
				block[(w.Bucket+k%37*w.BuckD)%37] = 0x15
				wantFind(t, mustRead(t, made(l...)), name, 0x1234)
				// A bucket ahead that is free ends it, if the block isn't full.
				if k%37 > 0 {
					block[(w.Bucket+(k%37-1)*w.BuckD)%37] = 0
					wantFind(t, mustRead(t, made(l...)), name, 0)
				}
			}
		}
	}
}

// TestFindBentPlaces has buckets that tell places within the buckets, and at a block's end.
func TestFindBentPlaces(t *testing.T) {
	for at := 1; at < 256; at++ {
		b := madeBlock(map[int]byte{9: byte(at)}, 0x50, "")
		if at > 18 {
			copy(b[2*at:], told("01 58 3412"))
		}
		l := made(b)
		x := mustRead(t, joined(l, told("34 12 34 12")))
		wantFind(t, x, "X", findModel(b, "X"))
		wantFind(t, x, "Y", findModel(b, "Y"))
		wantFind(t, x, "", findModel(b, ""))
		// Of the last place's name there is no page; what stands in the next block is none.
		if at == 255 {
			wantFind(t, x, "X", 0)
			wantFind(t, mustRead(t, made(b, told(strings.Repeat("3412", 256)))), "X", 0)
		} else if at > 18 {
			wantFind(t, x, "X", 0x1234)
		}
	}
	// A name whose page is missing is none: it is sought farther.
	for at, want := range map[byte]int{0xfe: 0x7777, 0xff: 0x1234} {
		b := madeBlock(map[int]byte{9: at, 5: 0x13}, 0x50, "01 58 3412")
		copy(b[508:], told("01 58 7777"))
		copy(b[2*int(at):], told("01 58"))
		wantFind(t, mustRead(t, made(b)), "X", want)
	}
	// A name's bytes that go beyond the block are none.
	b := upTo(512, joined(madeBlock(map[int]byte{9: 0xff}, 0x50, "")[:510], told("0158")))
	wantFind(t, mustRead(t, made(b)), "X", 0)
}

// TestModuleOfEachPage asks for each page of libraries, and for what is none.
func TestModuleOfEachPage(t *testing.T) {
	for _, page := range []int{16, 32, 64, 128, 512, 4096, 32768} {
		l := append(sample(), sized(t, 3*page), sized(t, 2*page+1), gives("last"))
		b := mustWrite(t, l, page)
		x := mustRead(t, b)
		begins := len(b) - 512
		starts := map[int]api.Module{}
		at := 1
		for _, m := range l {
			starts[at] = m
			w, _ := omf.Write(m)
			at += (len(w) + page - 1) / page
		}
		for n := 1; n*page < begins; n++ {
			if m, is := starts[n]; is {
				wantModule(t, x, n, m)
				continue
			}
			// Within a module, or behind the last one: omf's error of what stands there.
			_, _, e := omf.Read(b[n*page : begins])
			if e == api.OK {
				t.Fatalf("a module stands at page %d", n)
			}
			wantNoModule(t, x, n, e)
		}
		last := (begins + page - 1) / page
		for _, n := range []int{0, -1, -2, -page, math.MinInt, math.MinInt + 1, last, last + 1, last + 2, last + 512/page, last + 512/page + 1, 65535, 65536, 65537, 1 << 31, 1 << 32, 1<<32 + 1, 1 << 60, 1<<60 + 1, math.MaxInt/page + 1, math.MaxInt/page + 2, math.MaxInt} {
			wantNoModule(t, x, n, api.ErrNone)
		}
	}
}

// TestModuleErrors has modules that are bent, behind a library's back.
func TestModuleErrors(t *testing.T) {
	b := mustWrite(t, sample(), 512)
	for _, c := range []struct {
		at, by int
		want   api.Errno
	}{{512 + 4, 1, api.ErrSum}, {512, 2, api.ErrSum}, {512 + 2, 0x0c, api.ErrShort}, {512 + 2, 0x10, api.ErrBig}} {
		bent := joined(b)
		bent[c.at] ^= byte(c.by)
		x := mustRead(t, bent)
		wantNoModule(t, x, 1, c.want)
		wantModule(t, x, 2, sample()[1])
		wantFind(t, x, "alpha", 1)
	}
	// Bytes of the dictionary are none of a module's.
	m := joined(told("80 0200 00 7e"), noughts(507))
	cut := joined(upTo(512, head(0xf0, 0x1fd, 1024, 1, 1)), m[:507], []byte{0x88, 0x20, 0, 0, 0}, madeBlock(nil, 0x13, ""))
	wantNoModule(t, mustRead(t, cut), 1, api.ErrForm)
	record := joined(told("80 0200 00 7e 88 f901"), noughts(504))
	wantNoModule(t, mustRead(t, joined(upTo(512, head(0xf0, 0x1fd, 1024, 1, 1)), record, madeBlock(nil, 0x13, ""))), 1, api.ErrShort)
}

// TestModuleWhereTheDictionaryBegins: pages end there, even if it begins within one.
func TestModuleWhereTheDictionaryBegins(t *testing.T) {
	first := upTo(2048, head(0xf0, 2045, 2560, 1, 1))
	x := mustRead(t, joined(first, upTo(512, told(handX)), madeBlock(nil, 0x13, "")))
	wantModule(t, x, 1, gives("X"))
	wantNoModule(t, x, 2, api.ErrNone)
	x = mustRead(t, joined(upTo(2048, head(0xf0, 2045, 2048, 1, 1)), upTo(512, told(handX)), noughts(4096)))
	wantNoModule(t, x, 1, api.ErrNone)
	wantNoModule(t, x, 2, api.ErrNone)
}
