package addr

import (
	"math"
	"testing"

	"hansom/api"
)

// named is which registers the chapter names, by RM 0 to 7.
func named() [8][]int {
	return [8][]int{
		{api.BX, api.SI},
		{api.BX, api.DI},
		{api.BP, api.SI},
		{api.BP, api.DI},
		{api.SI},
		{api.DI},
		{api.BP},
		{api.BX},
	}
}

// namedBy is which registers count with a Mod that tells something in memory and an RM of 0 to 7.
func namedBy(mod, rm int) []int {
	if mod == 0 && rm == 6 {
		return nil
	}
	return named()[rm]
}

func has(l []int, n int) bool {
	for _, v := range l {
		if v == n {
			return true
		}
	}
	return false
}

// disps are Disps at the edges of a byte's and a word's sign.
func disps() []uint16 {
	return []uint16{
		0, 1, 2, 0x7e, 0x7f, 0x80, 0x81, 0xff, 0x100, 0x1234,
		0x7ffe, 0x7fff, 0x8000, 0x8001, 0xff7f, 0xff80, 0xff81, 0xfffe, 0xffff,
	}
}

// apart is registers of one bit each, so that each sum of some of them is unlike all others.
func apart() api.Regs {
	r := api.Regs{IP: 0x4321, F: api.FlagC | api.FlagZ}
	for n := range r.G {
		r.G[n].V = 1 << (2 * n)
	}
	for n := range r.S {
		r.S[n].V = 0x2000 + 0x0111*uint16(n)
	}
	return r
}

// great is registers of which each two come to more than a word.
func great() api.Regs {
	r := apart()
	for n := range r.G {
		r.G[n].V = 0xff00 - 0x0b07*uint16(n)
	}
	return r
}

// drawn is registers that are drawn by a rule.
func drawn(seed uint32) api.Regs {
	r := api.Regs{}
	word := func() uint16 {
		seed = seed*1664525 + 1013904223
		return uint16(seed >> 16)
	}
	for n := range r.G {
		r.G[n].V = word()
	}
	for n := range r.S {
		r.S[n].V = word()
	}
	return r
}

// several are registers of many kinds, none with a paragraph.
func several() []api.Regs {
	l := []api.Regs{{}, apart(), great()}
	for seed := range uint32(20) {
		l = append(l, drawn(seed))
	}
	return l
}

// paragraphs is these registers, all with paragraphs.
func paragraphs(r api.Regs) api.Regs {
	for n := range r.G {
		r.G[n].T = true
	}
	for n := range r.S {
		r.S[n].T = true
	}
	return r
}

// Numbers beyond 0 to 7; some have the lower bits of one of these.
func beyond() []int {
	return []int{
		math.MinInt, math.MinInt + 6, math.MinInt32, -1 << 16, -256, -250, -8, -7, -6, -5, -4, -3, -2, -1,
		8, 9, 10, 11, 14, 15, 16, 255, 256, 258, 262, 1 << 16, 1<<16 + 6, 1 << 32, 1<<32 + 3, math.MaxInt32, math.MaxInt,
	}
}

// modsBelow and modsAbove are Mods below 0 and above 3.
func modsBelow() []int {
	return []int{math.MinInt, math.MinInt + 1, math.MinInt + 3, math.MinInt32, -1 << 32, -256, -254, -4, -3, -2, -1}
}

func modsAbove() []int {
	return []int{4, 5, 6, 7, 8, 9, 10, 11, 255, 256, 257, 258, 259, 1 << 16, 1<<16 + 3, 1 << 32, 1<<32 + 3, math.MaxInt32, math.MaxInt}
}

// modsInMemory are Mods that tell something in memory.
func modsInMemory() []int { return append([]int{0, 1, 2}, modsAbove()...) }

// nowhere are instructions whose second byte tells nothing in memory: Mod 3, Mod below 0, and RM beyond 0 to 7.
func nowhere() []api.Inst {
	var l []api.Inst
	for _, mod := range append([]int{3}, modsBelow()...) {
		for rm := range 8 {
			l = append(l, api.Inst{Mod: mod, RM: rm})
		}
		for _, rm := range beyond() {
			l = append(l, api.Inst{Mod: mod, RM: rm})
		}
	}
	for _, mod := range modsInMemory() {
		for _, rm := range beyond() {
			l = append(l, api.Inst{Mod: mod, RM: rm})
		}
	}
	return l
}

// noise is an instruction with other parts, of which nothing is asked here.
func noise(i api.Inst) api.Inst {
	i.Lock, i.Rep, i.Op, i.Reg, i.Sel = true, 2, 0x8b, api.BP, 0xbeef
	return i
}

func TestOffExamples(t *testing.T) {
	r := api.Regs{}
	for n, v := range [8]uint16{0x0001, 0x0020, 0x0300, 0x4000, 0x0005, 0x6000, 0x0700, 0x8000} {
		r.G[n].V = v
	}
	cases := []struct {
		mod, rm int
		disp    uint16
		want    uint16
	}{
		{0, 0, 0, 0x4700}, {0, 1, 0, 0xc000}, {0, 2, 0, 0x6700}, {0, 3, 0, 0xe000},
		{0, 4, 0, 0x0700}, {0, 5, 0, 0x8000}, {0, 6, 0x1234, 0x1234}, {0, 7, 0, 0x4000},
		{1, 0, 1, 0x4701}, {1, 6, 0, 0x6000}, {1, 6, 0x7f, 0x607f}, {1, 6, 0xff80, 0x5f80}, {1, 7, 0xffff, 0x3fff},
		{2, 3, 0x2000, 0x0000}, {2, 3, 0x2001, 0x0001}, {2, 5, 0x8000, 0x0000}, {2, 6, 0xa000, 0x0000}, {2, 6, 0x1234, 0x7234},
		{3, 6, 0x1234, 0}, {4, 6, 1, 0x6001}, {-1, 6, 0x1234, 0}, {0, 8, 0x1234, 0}, {0, -1, 0x1234, 0},
	}
	for _, c := range cases {
		off, plain := Off(r, api.Inst{Mod: c.mod, RM: c.rm, Disp: c.disp})
		if off != c.want || !plain {
			t.Errorf("Mod %d, RM %d, Disp %#x: %#x, %v, want %#x", c.mod, c.rm, c.disp, off, plain, c.want)
		}
	}
}

func TestOffIsTheSumOfWhatCounts(t *testing.T) {
	for _, r := range several() {
		for _, mod := range modsInMemory() {
			for rm := range 8 {
				for _, disp := range disps() {
					sum := int(disp)
					for _, n := range namedBy(mod, rm) {
						sum += int(r.G[n].V)
					}
					i := api.Inst{Mod: mod, RM: rm, Disp: disp}
					for _, i := range []api.Inst{i, noise(i)} {
						if off, plain := Off(r, i); int(off) != sum%65536 || !plain {
							t.Fatalf("%+v with %+v: %#x, %v, want %#x", i, r, off, plain, sum%65536)
						}
					}
				}
			}
		}
	}
}

func TestOffWithOneParagraph(t *testing.T) {
	for _, base := range []api.Regs{{}, apart(), great()} {
		for _, mod := range modsInMemory() {
			for rm := range 8 {
				i := api.Inst{Mod: mod, RM: rm, Disp: 0x0102}
				same, _ := Off(base, i)
				for n := range base.G {
					r := base
					r.G[n].T = true
					want := !has(namedBy(mod, rm), n)
					if off, plain := Off(r, i); plain != want || off != same {
						t.Errorf("Mod %d, RM %d, a paragraph in register %d: %#x, %v, want %#x, %v", mod, rm, n, off, plain, same, want)
					}
				}
				for n := range base.S {
					r := base
					r.S[n].T = true
					if off, plain := Off(r, i); !plain || off != same {
						t.Errorf("Mod %d, RM %d, a paragraph in segment register %d: %#x, %v", mod, rm, n, off, plain)
					}
				}
			}
		}
	}
}

func TestOffWithManyParagraphs(t *testing.T) {
	for _, mod := range modsInMemory() {
		for rm := range 8 {
			i := api.Inst{Mod: mod, RM: rm, Disp: 0xfff0}
			count := namedBy(mod, rm)
			same, _ := Off(great(), i)
			all := paragraphs(great())
			if off, plain := Off(all, i); plain != (len(count) == 0) || off != same {
				t.Errorf("Mod %d, RM %d, all paragraphs: %#x, %v", mod, rm, off, plain)
			}
			others := all
			for _, n := range count {
				others.G[n].T = false
			}
			if off, plain := Off(others, i); !plain || off != same {
				t.Errorf("Mod %d, RM %d, paragraphs in all that don't count: %#x, %v", mod, rm, off, plain)
			}
			for _, n := range count {
				one := others
				one.G[n].T = true
				if off, plain := Off(one, i); plain || off != same {
					t.Errorf("Mod %d, RM %d, a paragraph in %d and all that don't count: %#x, %v", mod, rm, n, off, plain)
				}
			}
		}
	}
}

func TestOffOfNothingInMemory(t *testing.T) {
	for _, r := range []api.Regs{{}, apart(), great(), paragraphs(apart()), paragraphs(great())} {
		for _, i := range nowhere() {
			for _, i.Disp = range disps() {
				for seg := range 5 {
					i.Seg = seg
					if off, plain := Off(r, noise(i)); off != 0 || !plain {
						t.Fatalf("%+v with %+v: %#x, %v", i, r, off, plain)
					}
				}
			}
		}
	}
}

// wantDefault is the segment register's number without Seg.
func wantDefault(mod, rm int) int {
	if has(namedBy(mod, rm), api.BP) {
		return api.SS
	}
	return api.DS
}

func TestDefaultExamples(t *testing.T) {
	cases := []struct{ mod, rm, seg, want int }{
		{1, 6, 0, 2}, {2, 6, 0, 2}, {0, 6, 0, 3}, {3, 6, 0, 3}, {4, 6, 0, 2}, {-1, 6, 0, 3},
		{0, 0, 0, 3}, {0, 1, 0, 3}, {0, 2, 0, 2}, {0, 3, 0, 2}, {0, 4, 0, 3}, {0, 5, 0, 3}, {0, 7, 0, 3},
		{3, 2, 0, 3}, {3, 3, 0, 3}, {1, -1, 0, 3}, {1, 8, 0, 3}, {1, 14, 0, 3},
		{0, 0, 1, 0}, {0, 0, 2, 1}, {0, 0, 3, 2}, {0, 0, 4, 3},
		{1, 6, 1, 0}, {1, 6, 2, 1}, {1, 6, 3, 2}, {1, 6, 4, 3}, {3, 0, 1, 0}, {3, 6, 3, 2},
	}
	for _, c := range cases {
		if n := Default(api.Inst{Mod: c.mod, RM: c.rm, Seg: c.seg}); n != c.want {
			t.Errorf("Mod %d, RM %d, Seg %d: %d, want %d", c.mod, c.rm, c.seg, n, c.want)
		}
	}
}

func TestDefaultWithoutSeg(t *testing.T) {
	for _, mod := range modsInMemory() {
		for rm := range 8 {
			for _, disp := range disps() {
				i := api.Inst{Mod: mod, RM: rm, Disp: disp}
				for _, i := range []api.Inst{i, noise(i)} {
					if n := Default(i); n != wantDefault(mod, rm) {
						t.Fatalf("%+v: %d, want %d", i, n, wantDefault(mod, rm))
					}
				}
			}
		}
	}
	for _, i := range nowhere() {
		if n := Default(noise(i)); n != api.DS {
			t.Errorf("Mod %d, RM %d: %d, want DS", i.Mod, i.RM, n)
		}
	}
}

// everywhere are instructions with each kind of Mod and RM.
func everywhere() []api.Inst {
	l := nowhere()
	for _, mod := range modsInMemory() {
		for rm := range 8 {
			l = append(l, api.Inst{Mod: mod, RM: rm})
		}
	}
	return l
}

func TestDefaultAsSegTells(t *testing.T) {
	for _, i := range everywhere() {
		for _, n := range []int{api.ES, api.CS, api.SS, api.DS} {
			i.Seg = n + 1
			if got := Default(noise(i)); got != n {
				t.Errorf("Mod %d, RM %d, Seg %d: %d", i.Mod, i.RM, i.Seg, got)
			}
		}
	}
}

// mixed are registers of which each set of segment registers has paragraphs, and of which a general one has one, or none.
func mixed() []api.Regs {
	var l []api.Regs
	for set := range 16 {
		r := great()
		for n := range r.S {
			r.S[n].T = set>>n&1 == 1
		}
		l = append(l, r)
		for n := range r.G {
			one := r
			one.G[n].T = true
			l = append(l, one)
		}
	}
	return l
}

func TestOfIsTheSegmentAndTheOffset(t *testing.T) {
	for _, r := range mixed() {
		for _, mod := range []int{math.MinInt, -1, 0, 1, 2, 3, 4, 7, math.MaxInt} {
			for rm := -1; rm <= 8; rm++ {
				for seg := range 5 {
					i := noise(api.Inst{Mod: mod, RM: rm, Seg: seg, Disp: 0x8765, Imm: 0x1111})
					off, plain := Off(r, i)
					want := api.Place{Seg: r.S[Default(i)], Off: off}
					if p, ok := Of(r, i); p != want || ok != plain {
						t.Fatalf("%+v with %+v: %+v, %v, want %+v, %v", i, r, p, ok, want, plain)
					}
				}
			}
		}
	}
}

func TestOfExamples(t *testing.T) {
	r := api.Regs{}
	r.G[api.BP] = api.Val{V: 0xfff0}
	r.G[api.SI] = api.Val{V: 0x0020, T: true}
	r.S = [4]api.Val{{V: 0x0e50, T: true}, {V: 0x0c50}, {V: 0x0550, T: true}, {V: 0x0d50}}
	cases := []struct {
		i    api.Inst
		want api.Place
		ok   bool
	}{
		{api.Inst{Mod: 1, RM: 6, Disp: 0x11}, api.Place{Seg: api.Val{V: 0x0550, T: true}, Off: 0x0001}, true},
		{api.Inst{Mod: 1, RM: 6, Disp: 0x11, Seg: 1}, api.Place{Seg: api.Val{V: 0x0e50, T: true}, Off: 0x0001}, true},
		{api.Inst{Mod: 1, RM: 6, Disp: 0x11, Seg: 2}, api.Place{Seg: api.Val{V: 0x0c50}, Off: 0x0001}, true},
		{api.Inst{Mod: 1, RM: 6, Disp: 0x11, Seg: 3}, api.Place{Seg: api.Val{V: 0x0550, T: true}, Off: 0x0001}, true},
		{api.Inst{Mod: 1, RM: 6, Disp: 0x11, Seg: 4}, api.Place{Seg: api.Val{V: 0x0d50}, Off: 0x0001}, true},
		{api.Inst{Mod: 0, RM: 2}, api.Place{Seg: api.Val{V: 0x0550, T: true}, Off: 0x0010}, false},
		{api.Inst{Mod: 0, RM: 4}, api.Place{Seg: api.Val{V: 0x0d50}, Off: 0x0020}, false},
		{api.Inst{Mod: 0, RM: 6, Disp: 0x1234}, api.Place{Seg: api.Val{V: 0x0d50}, Off: 0x1234}, true},
		{api.Inst{Mod: 3, RM: 6, Disp: 0x1234}, api.Place{Seg: api.Val{V: 0x0d50}}, true},
		{api.Inst{Mod: 3, RM: 4, Seg: 1}, api.Place{Seg: api.Val{V: 0x0e50, T: true}}, true},
	}
	for _, c := range cases {
		if p, ok := Of(r, c.i); p != c.want || ok != c.ok {
			t.Errorf("%+v: %+v, %v, want %+v, %v", c.i, p, ok, c.want, c.ok)
		}
	}
}

func TestDirect(t *testing.T) {
	for _, r := range append(mixed(), paragraphs(apart())) {
		for _, imm := range disps() {
			for seg, n := range [5]int{api.DS, api.ES, api.CS, api.SS, api.DS} {
				// The second byte's parts, which there are none of here, tell nothing.
				for _, mod := range []int{-1, 0, 1, 2, 3, 4} {
					for _, rm := range []int{-1, 0, 2, 6, 8} {
						i := api.Inst{Seg: seg, Imm: imm, Mod: mod, RM: rm, Disp: 0x7777, Sel: 0x9999}
						want := api.Place{Seg: r.S[n], Off: imm}
						if p := Direct(r, i); p != want {
							t.Fatalf("%+v with %+v: %+v, want %+v", i, r, p, want)
						}
					}
				}
			}
		}
	}
}

// A prefix above the last register tells one that there is none of: its value is 0, as package regs has it.
func TestSegAboveTheRegisters(t *testing.T) {
	r := paragraphs(apart())
	for _, seg := range []int{5, 6, 7, 8, 9, 255, 256, 257, 260, 1 << 16, 1<<16 + 1, 1 << 32, 1<<32 + 1, math.MaxInt32, math.MaxInt} {
		for _, i := range everywhere() {
			i.Seg, i.Disp, i.Imm = seg, 0x0203, 0x0405
			off, plain := Off(r, i)
			if n := Default(i); n != seg-1 {
				t.Fatalf("%+v: Default is %d", i, n)
			}
			if p, ok := Of(r, i); p != (api.Place{Off: off}) || ok != plain {
				t.Fatalf("%+v: Of is %+v, %v", i, p, ok)
			}
			if p := Direct(r, i); p != (api.Place{Off: 0x0405}) {
				t.Fatalf("%+v: Direct is %+v", i, p)
			}
		}
	}
}

// A prefix below 0 is none, as layer 5 counts prefixes.
func TestSegBelowNone(t *testing.T) {
	r := mixed()[5]
	for _, seg := range []int{-1, -2, -3, -4, -5, -255, -256, -1 << 32, math.MinInt32, math.MinInt + 1, math.MinInt} {
		for _, i := range everywhere() {
			i.Disp, i.Imm = 0x0203, 0x0405
			without := i
			i.Seg = seg
			if n := Default(i); n != Default(without) {
				t.Fatalf("%+v: Default is %d", i, n)
			}
			p, ok := Of(r, i)
			if want, plain := Of(r, without); p != want || ok != plain {
				t.Fatalf("%+v: Of is %+v, %v", i, p, ok)
			}
			if p := Direct(r, i); p != Direct(r, without) {
				t.Fatalf("%+v: Direct is %+v", i, p)
			}
		}
	}
}

// What Seg is plays no part in the offset.
func TestOffWithSeg(t *testing.T) {
	for _, r := range mixed() {
		for _, mod := range []int{0, 1, 2, 3, 4, -1} {
			for rm := -1; rm <= 8; rm++ {
				i := api.Inst{Mod: mod, RM: rm, Disp: 0x0708}
				want, plain := Off(r, i)
				for _, i.Seg = range []int{math.MinInt, -1, 1, 2, 3, 4, 5, math.MaxInt} {
					if off, ok := Off(r, i); off != want || ok != plain {
						t.Fatalf("%+v with %+v: %#x, %v, want %#x, %v", i, r, off, ok, want, plain)
					}
				}
			}
		}
	}
}
