package lib

import (
	"fmt"
	"math"
	"strings"
	"testing"

	"hansom/api"
)

// sizes is each size that a page may have.
var sizes = []int{16, 32, 64, 128, 256, 512, 1024, 2048, 4096, 8192, 16384, 32768}

// madeBlock is a block of buckets, that tell places, of where it is free, and of names.
func madeBlock(buckets map[int]byte, room byte, names string) []byte {
	b := make([]byte, 37)
	for n, at := range buckets {
		b[n] = at
	}
	return upTo(512, joined(b, []byte{room}, told(names)))
}

func TestWriteNoModules(t *testing.T) {
	none := madeBlock(nil, 0x13, "")
	small := joined(upTo(16, told("f0 0d00 00020000 0100 01")), upTo(512-16, told("f1 0d00")), none)
	wantBytes(t, "pages of 16", mustWrite(t, nil, 16), small)
	wantBytes(t, "pages of 16", mustWrite(t, []api.Module{}, 16), small)
	half := joined(upTo(256, told("f0 fd00 00020000 0100 01")), upTo(256, told("f1 fd00")), none)
	wantBytes(t, "pages of 256", mustWrite(t, nil, 256), half)
	whole := joined(upTo(512, told("f0 fd01 00040000 0100 01")), upTo(512, told("f1 fd01")), none)
	wantBytes(t, "pages of 512", mustWrite(t, nil, 512), whole)
	most := joined(upTo(32768, told("f0 fd7f 00000100 0100 01")), upTo(32768, told("f1 fd7f")), none)
	wantBytes(t, "pages of 32768", mustWrite(t, nil, 32768), most)
}

// Modules that give X, and Y and z, as they are told by hand.
const (
	handX  = "80 0200 00 7e 90 0a00 00 00 0000 01 58 0000 00 0d 8a 0200 00 74"
	handYz = "80 0200 00 7e 90 0a00 00 00 0000 01 59 0000 00 0c 90 0a00 00 00 0000 01 7a 0000 00 eb 8a 0200 00 74"
)

func TestWriteByHand(t *testing.T) {
	// X: 21 forth, 78 back: the bucket is 9; Y and z are in the two behind it.
	one := joined(upTo(16, told("f0 0d00 00020000 0100 01")), upTo(32, told(handX)), upTo(512-48, told("f1 0d00")),
		madeBlock(map[int]byte{9: 0x13}, 0x15, "01 58 0100"))
	wantBytes(t, "one", mustWrite(t, []api.Module{gives("X")}, 16), one)

	two := joined(upTo(16, told("f0 0d00 00020000 0100 01")), upTo(32, told(handX)), upTo(48, told(handYz)), upTo(512-96, told("f1 0d00")),
		madeBlock(map[int]byte{9: 0x13, 10: 0x15, 11: 0x17}, 0x19, "01 58 0100 01 59 0300 01 7a 0300"))
	wantBytes(t, "two", mustWrite(t, []api.Module{gives("X"), gives("Y", "z")}, 16), two)

	turned := joined(upTo(64, told("f0 3d00 00020000 0100 01")), upTo(64, told(handYz)), upTo(64, told(handX)), upTo(512-192, told("f1 3d00")),
		madeBlock(map[int]byte{10: 0x13, 11: 0x15, 9: 0x17}, 0x19, "01 59 0100 01 7a 0100 01 58 0200"))
	wantBytes(t, "the other way round", mustWrite(t, []api.Module{gives("Y", "z"), gives("X")}, 64), turned)
}

// TestWriteNamesOfEachLength has names of an even and of an odd number of bytes: each begins at an even place.
func TestWriteNamesOfEachLength(t *testing.T) {
	b := mustWrite(t, []api.Module{gives("", "A", "BC", "GHI")}, 512)
	// Of no letters: bucket 0. A: 61. BC: 63 is c018, xor 62. GHI: 69 is 401a, xor 68 is 4072, that is 901c, xor 67.
	want := madeBlock(map[int]byte{0: 0x13, 0x61 % 37: 0x15, 0xc07a % 37: 0x17, 0x907b % 37: 0x1a}, 0x1d,
		"00 0100 00 01 41 0100 02 4243 0100 00 03 474849 0100")
	wantBytes(t, "names", b[len(b)-512:], want)
}

func TestWriteNamesOfOnePlace(t *testing.T) {
	// x, X: the step is 33 buckets: 9, 42 - 37.
	b := mustWrite(t, []api.Module{gives("x", "X")}, 16)
	wantBytes(t, "names", b[len(b)-512:], madeBlock(map[int]byte{9: 0x13, 5: 0x15}, 0x17, "01 78 0100 01 58 0100"))
	x := mustRead(t, b)
	wantFind(t, x, "x", 1)
	wantFind(t, x, "X", 1)
}

// TestWriteEachPage holds libraries on pages of each size against the model.
func TestWriteEachPage(t *testing.T) {
	for _, page := range sizes {
		for _, l := range [][]api.Module{nil, sample(), {sized(t, max(page, 16)), gives("X")}, {gives("X"), sized(t, page+1), gives("Y")}, {sized(t, 2*page-1), gives("Z")}} {
			what := fmt.Sprintf("%d modules, pages of %d", len(l), page)
			b := mustWrite(t, l, page)
			wantBytes(t, what, b, libraryModel(t, l, page))
			x := mustRead(t, b)
			if x.Page() != page || x.Blocks() != 1 {
				t.Errorf("%s: Page %d, Blocks %d", what, x.Page(), x.Blocks())
			}
		}
	}
}

// TestWriteFillsAPage has a module that fills its page just so, and one of a byte more, for each size.
func TestWriteFillsAPage(t *testing.T) {
	for _, page := range sizes {
		for more := -1; more <= 1; more++ {
			x := mustRead(t, mustWrite(t, []api.Module{sized(t, page+more), gives("X")}, page))
			want := 2
			if more > 0 {
				want = 3
			}
			wantFind(t, x, "X", want)
			wantModule(t, x, want, gives("X"))
		}
	}
}

// TestWriteFillsAPageByHand: 10 bytes of a module without a name, and one for each letter.
func TestWriteFillsAPageByHand(t *testing.T) {
	just := joined(upTo(16, told("f0 0d00 00020000 0100 01")), told("80 0800 06 414141414141 ec 8a 0200 00 74"), upTo(512-32, told("f1 0d00")), madeBlock(nil, 0x13, ""))
	wantBytes(t, "just so", mustWrite(t, []api.Module{{Name: "AAAAAA"}}, 16), just)
	more := joined(upTo(16, told("f0 0d00 00020000 0100 01")), upTo(32, told("80 0900 07 41414141414141 a9 8a 0200 00 74")), upTo(512-48, told("f1 0d00")), madeBlock(nil, 0x13, ""))
	wantBytes(t, "a byte more", mustWrite(t, []api.Module{{Name: "AAAAAAA"}}, 16), more)
}

// TestWriteWhereTheDictionaryBegins has pages that come to a multiple of LibBlock just so, and one more.
func TestWriteWhereTheDictionaryBegins(t *testing.T) {
	for pages, want := range map[int]string{1: "0002", 29: "0002", 30: "0002", 31: "0004", 61: "0004", 62: "0004", 63: "0006", 126: "0008", 127: "000a"} {
		b := mustWrite(t, []api.Module{sized(t, 16*pages)}, 16)
		wantBytes(t, fmt.Sprintf("%d pages", pages), b[:10], told("f0 0d00"+want+"0000 0100 01"))
		wantBytes(t, fmt.Sprintf("%d pages", pages), b[16*(pages+1):len(b)-512], upTo(len(b)-512-16*(pages+1), told("f1 0d00")))
	}
	b := mustWrite(t, []api.Module{{}, {}, {}}, 32768)
	wantBytes(t, "pages of 32768", b[:10], told("f0 fd7f 00800200 0100 01"))
	b = mustWrite(t, []api.Module{sized(t, 1<<20)}, 1024)
	wantBytes(t, "a great module", b[:10], told("f0 fd03 00081000 0100 01"))
}

func TestWriteInput(t *testing.T) {
	wrong := []int{0, 1, 2, 3, 4, 7, 8, 9, 15, 17, 18, 20, 24, 31, 33, 48, 63, 96, 255, 257, 500, 511, 513, 768, 1000, 16383, 16385, 24576, 32767, 32769, 40000, 65535, 65536, 65552, 1 << 17,
		-1, -15, -16, -17, -32, -512, -32768, -65520, math.MinInt, math.MinInt + 16, math.MaxInt, math.MinInt32, 1 << 32, 1<<32 + 16, 1 << 62, 1<<62 + 512}
	for _, page := range wrong {
		wantWriteError(t, fmt.Sprint(page), nil, page, api.ErrInput)
		wantWriteError(t, fmt.Sprint(page), sample(), page, api.ErrInput)
		wantWriteError(t, fmt.Sprint(page), []api.Module{{Names: make([]string, 257)}, gives("X", "X")}, page, api.ErrInput)
	}
	for page := -40; page <= 33000; page++ {
		is := 0
		for _, size := range sizes {
			if page == size {
				is++
			}
		}
		if is == 0 {
			wantWriteError(t, fmt.Sprint(page), nil, page, api.ErrInput)
		}
	}
}

// broken is modules that may not be, by their errors.
func broken() map[api.Errno]api.Module {
	return map[api.Errno]api.Module{
		api.ErrBig:   {Names: make([]string, 257)},
		api.ErrForm:  {Name: strings.Repeat("N", 256)},
		api.ErrIndex: {Groups: []api.GrpDef{{Name: 1}}},
	}
}

func TestWriteModulesErrors(t *testing.T) {
	for want, m := range broken() {
		wantWriteError(t, "alone", []api.Module{m}, 16, want)
		wantWriteError(t, "first", []api.Module{m, {}, gives("X")}, 512, want)
		wantWriteError(t, "last", []api.Module{gives("X"), {}, m}, 64, want)
		wantWriteError(t, "in the middle", []api.Module{gives("X"), m, gives("Y")}, 32768, want)
		wantWriteError(t, "with a name that is given twice", []api.Module{gives("X"), gives("X"), m}, 16, want)
		for _, other := range broken() {
			wantWriteError(t, "ahead of another one", []api.Module{{}, m, other}, 16, want)
		}
		m.Pubs = gives("Y", "Y").Pubs
		wantWriteError(t, "that gives a name twice", []api.Module{m}, 16, want)
	}
	wantWriteError(t, "a group of too many segments", []api.Module{{Names: []string{""}, Segs: []api.SegDef{{Align: 1}}, Groups: []api.GrpDef{{Name: 1, Segs: ones(2000)}}}}, 16, api.ErrBig)
	wantWriteError(t, "a name that is too long", []api.Module{gives(strings.Repeat("X", 256))}, 16, api.ErrForm)
}

// ones is so many.
func ones(many int) []int {
	l := make([]int, many)
	for i := range l {
		l[i] = 1
	}
	return l
}

func TestWriteTwice(t *testing.T) {
	long := strings.Repeat("x", 255)
	for _, name := range []string{"", "X", "main", "\xff\x00", long} {
		wantWriteError(t, "by one", []api.Module{gives(name, name)}, 16, api.ErrTwice)
		wantWriteError(t, "by one, others between", []api.Module{gives("a", name, "b", name, "c")}, 16, api.ErrTwice)
		wantWriteError(t, "by two", []api.Module{gives(name), gives(name)}, 512, api.ErrTwice)
		wantWriteError(t, "by the first and the last", []api.Module{gives("a", name), gives("b"), {}, gives("c", name)}, 32768, api.ErrTwice)
	}
	same := []api.Module{{Pubs: []api.Pub{{Name: "X", Off: 1}, {Name: "X", Off: 2, Frame: 3}}}}
	wantWriteError(t, "elsewhere", same, 16, api.ErrTwice)
	if _, e := Write([]api.Module{gives("x", "X", "XX", "", " "), gives("Xx", "xX", "xx"), gives(long, long[1:])}, 16); e != api.OK {
		t.Errorf("names that are not the same: %d", e)
	}
	// What is taken, what may be made, and other names may be told often.
	often := api.Module{Name: "X", Names: []string{"X", "X"}, Notes: []api.Comment{{Text: "X"}}, Exts: []api.Ext{{Name: "X"}, {Name: "X", Com: api.ComNear}, {Name: "X", Com: api.ComFar, Len: 1}}}
	x := mustRead(t, mustWrite(t, []api.Module{often, gives("X"), often}, 512))
	wantFind(t, x, "X", 2)
}

func TestWriteBig(t *testing.T) {
	for _, page := range sizes[1:] {
		just := []api.Module{sized(t, api.MostLib/2), sized(t, api.MostLib/2-page), sized(t, page-1)}
		b := mustWrite(t, just, page)
		if want := (2*page+api.MostLib+511)/512*512 + 512; len(b) != want {
			t.Errorf("pages of %d: %d bytes, want %d", page, len(b), want)
		}
		wantWriteError(t, fmt.Sprintf("pages of %d", page), append(just, api.Module{}), page, api.ErrBig)
		wantWriteError(t, fmt.Sprintf("pages of %d", page), []api.Module{sized(t, api.MostLib+1)}, page, api.ErrBig)
		mustWrite(t, []api.Module{sized(t, api.MostLib)}, page)
	}
	// A module counts with all of its pages.
	mustWrite(t, make([]api.Module, 32), 32768)
	wantWriteError(t, "pages", make([]api.Module, 33), 32768, api.ErrBig)
	mustWrite(t, make([]api.Module, 2048), 512)
	wantWriteError(t, "pages", make([]api.Module, 2049), 512, api.ErrBig)
}

func TestWriteMostPages(t *testing.T) {
	l := []api.Module{sized(t, 16*65534), gives()}
	b := mustWrite(t, l, 16)
	wantBytes(t, "65535 pages", b[:10], told("f0 0d00 00021000 0100 01"))
	wantModule(t, mustRead(t, b), 65535, api.Module{})
	wantWriteError(t, "a page more", append(l, api.Module{}), 16, api.ErrBig)
	wantWriteError(t, "a page more, in one", []api.Module{sized(t, 16*65535+1)}, 16, api.ErrBig)
	mustWrite(t, []api.Module{sized(t, 16*65535)}, 16)
	wantWriteError(t, "many more", []api.Module{sized(t, 16*65536)}, 16, api.ErrBig)
	wantWriteError(t, "more bytes", []api.Module{sized(t, 16*65536+1)}, 16, api.ErrBig)
}

func TestWriteWhichError(t *testing.T) {
	big := sized(t, api.MostLib+1)
	wantWriteError(t, "twice, and big", []api.Module{big, gives("X", "X")}, 512, api.ErrTwice)
	wantWriteError(t, "twice, and big", []api.Module{gives("X", "Y", "X"), big}, 16, api.ErrTwice)
	for want, m := range broken() {
		wantWriteError(t, "a module's, and big", []api.Module{big, m}, 512, want)
		wantWriteError(t, "a module's, twice, and big", []api.Module{big, gives("X", "X"), m}, 512, want)
		wantWriteError(t, "all", []api.Module{big, gives("X", "X"), m}, 500, api.ErrInput)
	}
	wantWriteError(t, "no page, and big", []api.Module{big}, 8, api.ErrInput)
	wantWriteError(t, "no page, and twice", []api.Module{gives("X", "X")}, 65536, api.ErrInput)
}

// TestWriteTheSame: the same calls answer the same.
func TestWriteTheSame(t *testing.T) {
	d := drawer(274)
	l := giveAll(d.names(300, 0, 40), 20)
	first := mustWrite(t, l, 64)
	for range 5 {
		wantBytes(t, "once more", mustWrite(t, l, 64), first)
	}
}
