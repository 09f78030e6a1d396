package pubs

import (
	"math"
	"slices"
	"testing"

	"hansom/api"
)

const (
	near = 0x62
	far  = 0x61
)

// mades are names that may be made, and their records' bytes, by hand.
var mades = []struct {
	l    []api.Ext
	text string
}{
	{nil, ""}, {[]api.Ext{}, ""},
	{[]api.Ext{{Name: "A", Com: near, Len: 7}}, "01 41 00 62 07"}, {[]api.Ext{{Name: "A", Com: far, Len: 7}}, "01 41 00 61 07 01"},
	{[]api.Ext{{Com: near}}, "00 00 62 00"}, {[]api.Ext{{Com: far}}, "00 00 61 00 01"},
	{[]api.Ext{{Name: "AB", Com: near, Len: 300}}, "02 4142 00 62 81 2c01"}, {[]api.Ext{{Name: "AB", Com: far, Len: 300}}, "02 4142 00 61 81 2c01 01"},
	{[]api.Ext{{Name: "AB", Com: near, Len: 0x12345}}, "02 4142 00 62 84 452301"}, {[]api.Ext{{Name: "AB", Com: far, Len: 0x12345}}, "02 4142 00 61 84 452301 01"},
	{[]api.Ext{{Name: "A", Com: near, Len: 1}, {Name: "BC", Com: far, Len: 2}, {Com: near, Len: 3}}, "01 41 00 62 01 02 4243 00 61 02 01 00 00 62 03"},
	{[]api.Ext{{Name: "A", Com: far, Len: 128}, {Name: "A", Com: far, Len: 129}}, "01 41 00 61 80 01 01 41 00 61 81 8100 01"},
	{[]api.Ext{{Name: "A", Com: near, Len: 128}, {Name: "A", Com: near, Len: 129}}, "01 41 00 62 80 01 41 00 62 81 8100"},
}

// madeReckoned is what a record of names that may be made has, reckoned here.
func madeReckoned(l []api.Ext) []byte {
	var b []byte
	for _, x := range l {
		b = append(b, counted(x.Name)...)
		if x.Com == far {
			b = append(b, slices.Concat([]byte{0, far}, long(int(x.Len)), []byte{1})...)
		} else {
			b = append(b, slices.Concat([]byte{0, near}, long(int(x.Len)))...)
		}
	}
	return b
}

// exts is so many names that may be made.
func (d *drawer) exts(many int) []api.Ext {
	l := make([]api.Ext, many)
	for i := range l {
		l[i] = api.Ext{Name: d.name(), Com: far + d.below(2), Len: uint32(d.below(1<<20+1) >> d.below(21))}
	}
	return l
}

func TestMadeByHand(t *testing.T) {
	for _, c := range mades {
		b := told(t, c.text)
		wantCommunal(t, c.l, b)
		wantMade(t, b, c.l, api.OK)
	}
}

// longs are lengths of each form at its edges, and their bytes; those above 2^20 are written, but not read.
var longs = []struct {
	n    uint32
	text string
}{
	{0, "00"}, {1, "01"}, {2, "02"}, {0x61, "61"}, {0x62, "62"}, {127, "7f"}, {128, "80"}, {129, "81 8100"}, {255, "81 ff00"}, {256, "81 0001"}, {0x1234, "81 3412"}, {32767, "81 ff7f"}, {32768, "81 0080"},
	{65534, "81 feff"}, {65535, "81 ffff"}, {65536, "84 000001"}, {65537, "84 010001"}, {0x12345, "84 452301"}, {0xfffff, "84 ffff0f"}, {0x100000, "84 000010"},
	{0x100001, "84 010010"}, {0x100002, "84 020010"}, {0x200000, "84 000020"}, {0xfffffe, "84 feffff"}, {0xffffff, "84 ffffff"}, {0x1000000, "88 00000001"}, {0x1000001, "88 01000001"}, {0x12345678, "88 78563412"},
	{0x7fffffff, "88 ffffff7f"}, {0x80000000, "88 00000080"}, {0xfffffffe, "88 feffffff"}, {0xffffffff, "88 ffffffff"},
}

func TestMadeLengths(t *testing.T) {
	for _, c := range longs {
		nears, fars := []api.Ext{{Name: "A", Com: near, Len: c.n}}, []api.Ext{{Name: "A", Com: far, Len: c.n}}
		asNear, asFar, turned := told(t, "014100 62"+c.text), told(t, "014100 61"+c.text+"01"), told(t, "014100 61 01"+c.text)
		wantCommunal(t, nears, asNear)
		wantCommunal(t, fars, asFar)
		if c.n <= 1<<20 {
			wantMade(t, asNear, nears, api.OK)
			wantMade(t, asFar, fars, api.OK)
			wantMade(t, turned, fars, api.OK)
		} else {
			wantMade(t, asNear, nil, api.ErrBig)
			wantMade(t, asFar, nil, api.ErrBig)
			wantMade(t, turned, nil, api.ErrBig)
		}
	}
	for n := uint32(0); n < 1<<20+1<<10; n += 7 {
		l := []api.Ext{{Com: near, Len: n}, {Com: far, Len: n}}
		b := madeReckoned(l)
		wantCommunal(t, l, b)
		if n <= 1<<20 {
			wantMade(t, b, l, api.OK)
		} else {
			wantMade(t, b, nil, api.ErrBig)
		}
	}
}

// TestMadeOfOtherKinds has kinds that are neither near nor far: they are written as near.
func TestMadeOfOtherKinds(t *testing.T) {
	for _, com := range []int{0, 1, -1, 0x60, 0x63, -0x61, -0x62, 0x161, 0x162, 0x10061, 0x6100, 0x6161, 255, 256, 1<<32 + 0x61, 1 << 32, math.MinInt, math.MaxInt, math.MinInt32, math.MaxInt32} {
		wantCommunal(t, []api.Ext{{Name: "A", Com: com, Len: 7}}, told(t, "01 41 00 62 07"))
		wantCommunal(t, []api.Ext{{Name: "A", Com: com, Len: 300}, {Name: "B", Com: far, Len: 300}}, told(t, "01 41 00 62 81 2c01 01 42 00 61 81 2c01 01"))
		wantMade(t, Communal([]api.Ext{{Name: "A", Com: com, Len: 300}}).Body, []api.Ext{{Name: "A", Com: near, Len: 300}}, api.OK)
	}
	for com := -300; com <= 700; com++ {
		l := []api.Ext{{Name: "A", Com: com, Len: 5}}
		wantCommunal(t, l, madeReckoned(l))
	}
}

// TestMadeOtherByte has each byte that is neither ComNear nor ComFar.
func TestMadeOtherByte(t *testing.T) {
	for n := range 256 {
		if n == near || n == far {
			continue
		}
		other := byte(n)
		for _, b := range [][]byte{
			{1, 'A', 0, other, 5}, {1, 'A', 0, other, 5, 1}, {1, 'A', 0, other, 0x81, 5, 0}, {1, 'A', 5, other, 5}, {1, 'A', 0x81, 5, other, 5}, {0, 0, other, 0},
			{1, 'A', 0, near, 5, 1, 'B', 0, other, 5}, {1, 'A', 0, far, 5, 1, 1, 'B', 0, other, 5, 1}, {1, 'A', 0, other, 5, 1, 'B', 0, near, 5},
			// Behind it it isn't asked what stands there.
			{1, 'A', 0, other}, {1, 'A', 0, other, 0x81}, {1, 'A', 0, other, 0xff}, {1, 'A', 0, other, 0x84, 0xff, 0xff, 0xff}, {1, 'A', 0, near, 5, 1, 'B', 0, other},
		} {
			wantMade(t, b, nil, api.ErrForm)
		}
	}
}

// TestMadeNoMark has lengths whose first byte is above 128, and no mark.
func TestMadeNoMark(t *testing.T) {
	for n := 129; n < 256; n++ {
		if n == 0x81 || n == 0x84 || n == 0x88 {
			continue
		}
		mark := byte(n)
		for _, b := range [][]byte{
			{1, 'A', 0, near, mark}, {1, 'A', 0, near, mark, 1, 2, 3, 4}, {1, 'A', 0, far, mark, 1}, {1, 'A', 0, far, 1, mark}, {1, 'A', 0, far, mark}, {1, 'A', 0, far, 1, mark, 0, 0, 0, 0},
			{1, 'A', 0, far, 0, mark}, {1, 'A', 0, far, 0x84, 0xff, 0xff, 0xff, mark},
		} {
			wantMade(t, b, nil, api.ErrForm)
		}
	}
}

// TestMadeFarProducts has how many, and how long each: what they come to is what it has.
func TestMadeFarProducts(t *testing.T) {
	edges := []int{0, 1, 2, 3, 7, 10, 100, 127, 128, 129, 255, 256, 257, 511, 512, 513, 1023, 1024, 1025, 2048, 4095, 4096, 4097, 32767, 32768, 65535, 65536, 65537, 131072, 0x7ffff, 0x80000, 0x80001,
		0xfffff, 0x100000, 0x100001, 0xffffff, 0x1000000, 0x7fffffff, 0x80000000, 0x80000001, 0xffff0000, 0xfffffffe, 0xffffffff}
	for _, many := range edges {
		for _, each := range edges {
			b := slices.Concat([]byte{1, 'A', 0, far}, long(many), long(each))
			// So that nothing is lost of a great product, it is asked by dividing.
			if each == 0 || many <= 1<<20/each {
				wantMade(t, b, []api.Ext{{Name: "A", Com: far, Len: uint32(many * each)}}, api.OK)
			} else {
				wantMade(t, b, nil, api.ErrBig)
			}
		}
	}
	for _, c := range []struct {
		text string
		n    uint32
		e    api.Errno
	}{
		{"81 0004 81 0004", 1 << 20, api.OK}, {"81 0104 81 0004", 0, api.ErrBig}, {"81 0004 81 0104", 0, api.ErrBig}, {"84 000010 01", 1 << 20, api.OK}, {"01 84 000010", 1 << 20, api.OK},
		{"84 010010 01", 0, api.ErrBig}, {"01 84 010010", 0, api.ErrBig}, {"84 000001 10", 1 << 20, api.OK}, {"84 000001 11", 0, api.ErrBig}, {"84 000001 84 000001", 0, api.ErrBig},
		{"88 00000080 02", 0, api.ErrBig}, {"02 88 00000080", 0, api.ErrBig}, {"88 ffffffff 88 ffffffff", 0, api.ErrBig}, {"88 01000080 02", 0, api.ErrBig}, {"88 00000100 88 00000100", 0, api.ErrBig},
		{"88 ffffffff 00", 0, api.OK}, {"00 88 ffffffff", 0, api.OK}, {"00 00", 0, api.OK}, {"03 05", 15, api.OK}, {"05 03", 15, api.OK}, {"81 2c01 0a", 3000, api.OK}, {"88 ffffffff 01", 0, api.ErrBig},
		{"84 000080 84 000002", 0, api.ErrBig}, {"88 00000010 10", 0, api.ErrBig}, {"88 01000010 10", 0, api.ErrBig},
	} {
		var l []api.Ext
		if c.e == api.OK {
			l = []api.Ext{{Name: "A", Com: far, Len: c.n}}
		}
		wantMade(t, told(t, "014100 61"+c.text), l, c.e)
	}
}

// TestMadeLongOfLittle has lengths in a longer form than they need.
func TestMadeLongOfLittle(t *testing.T) {
	for _, text := range []string{"05", "81 0500", "84 050000", "88 05000000"} {
		wantMade(t, told(t, "014100 62"+text), []api.Ext{{Name: "A", Com: near, Len: 5}}, api.OK)
		wantMade(t, told(t, "014100 61"+text+"81 0300"), []api.Ext{{Name: "A", Com: far, Len: 15}}, api.OK)
		wantMade(t, told(t, "014100 61 03"+text), []api.Ext{{Name: "A", Com: far, Len: 15}}, api.OK)
	}
	wantMade(t, told(t, "014100 62 88 00001000"), []api.Ext{{Name: "A", Com: near, Len: 1 << 20}}, api.OK)
	wantMade(t, told(t, "014100 62 88 01001000"), nil, api.ErrBig)
}

func TestMadeNames(t *testing.T) {
	d := drawer(321)
	for many := range 600 {
		l := []api.Ext{{Name: string(d.bytes(many)), Com: near, Len: 5}, {Name: string(d.bytes(many)), Com: far, Len: 6}, {Name: "B", Com: near, Len: 7}}
		b := madeReckoned(l)
		wantCommunal(t, l, b)
		for i := range l {
			l[i].Name = l[i].Name[:min(len(l[i].Name), 255)]
		}
		wantMade(t, b, l, api.OK)
	}
}

func TestMadeOfMany(t *testing.T) {
	d := drawer(322)
	for many := range 300 {
		l := d.exts(many)
		b := madeReckoned(l)
		wantCommunal(t, l, b)
		wantMade(t, b, l, api.OK)
	}
	for _, many := range []int{1000, 4000, 32768, 65537, 100000} {
		l := d.exts(many)
		b := madeReckoned(l)
		wantCommunal(t, l, b)
		wantMade(t, b, l, api.OK)
	}
}

func TestMadeIndexBehindName(t *testing.T) {
	for _, n := range anyIndices() {
		b := slices.Concat([]byte{1, 'A'}, n, []byte{near, 5, 1, 'B'}, n, []byte{far, 3, 2})
		wantMade(t, b, []api.Ext{{Name: "A", Com: near, Len: 5}, {Name: "B", Com: far, Len: 6}}, api.OK)
	}
}

func TestMadeMissing(t *testing.T) {
	for _, text := range []string{
		"00", "01", "ff", "01 41", "02 41", "01 41 00", "01 41 80", "01 41 8000", "01 41 00 62", "01 41 00 62 81", "01 41 00 62 81 05", "01 41 00 62 84", "01 41 00 62 84 0500", "01 41 00 62 88 050000",
		"01 41 00 61", "01 41 00 61 05", "01 41 00 61 81", "01 41 00 61 81 05", "01 41 00 61 81 0500", "01 41 00 61 05 81", "01 41 00 61 05 81 01", "01 41 00 61 05 84 0100", "01 41 00 61 05 88 010000",
		"01 41 00 62 05 01", "01 41 00 62 05 00", "01 41 00 62 05 00 00", "01 41 00 61 05 01 01 42 00 61 05",
		// How many alone is not too much yet.
		"01 41 00 61 84 ffffff", "01 41 00 61 88 ffffffff", "01 41 00 61 88 ffffffff 81 01", "01 41 00 61 84 ffffff 81",
	} {
		wantMade(t, told(t, text), nil, api.ErrShort)
	}
	d := drawer(323)
	for range 300 {
		l := d.exts(d.below(20))
		whole := map[int]int{0: 0}
		for i := range l {
			whole[len(madeReckoned(l[:i+1]))] = i + 1
		}
		b := madeReckoned(l)
		for have := range len(b) + 1 {
			if many, is := whole[have]; is {
				wantMade(t, b[:have], l[:many], api.OK)
			} else {
				wantMade(t, b[:have], nil, api.ErrShort)
			}
		}
	}
}

// TestMadeFirstWrongCounts has bytes where more than one thing is wrong: what stands behind the first is not read.
func TestMadeFirstWrongCounts(t *testing.T) {
	const big, short, form = "014100 62 84 010010", "014100 62 81", "014100 63 05"
	for _, c := range []struct {
		text string
		e    api.Errno
	}{
		{big + form, api.ErrBig}, {big + short, api.ErrBig}, {big + "00", api.ErrBig}, {form + big, api.ErrForm}, {form + short, api.ErrForm}, {"014100 62 05" + big, api.ErrBig}, {"014100 62 05" + form + big, api.ErrForm},
		{"014100 61 05 01" + big + form, api.ErrBig}, {"014100 61 84 010010 01" + form, api.ErrBig}, {"014100 61 02 84 010008" + short, api.ErrBig}, {big + big, api.ErrBig},
	} {
		wantMade(t, told(t, c.text), nil, c.e)
	}
}

// modelMade is what bytes tell, by where each part stands in them.
func modelMade(b []byte) ([]api.Ext, api.Errno) {
	c := cursor{b: b}
	var l []api.Ext
	for !c.over() {
		x := api.Ext{Name: c.text()}
		c.index()
		x.Com = c.num(1)
		if c.e == api.OK && x.Com != near && x.Com != far {
			c.fault(api.ErrForm)
		}
		many, each := c.length(), 1
		if x.Com == far {
			each = c.length()
		}
		if c.e == api.OK && each > 0 && many > 1<<20/each {
			c.fault(api.ErrBig)
		}
		x.Len = uint32(many * each)
		l = append(l, x)
	}
	if c.e != api.OK {
		return nil, c.e
	}
	return l, api.OK
}

func TestMadeByModel(t *testing.T) {
	letters := []byte{0, 1, near, far, 0x80, 0x81, 0x84}
	var all func(b []byte)
	all = func(b []byte) {
		l, e := modelMade(b)
		wantMade(t, b, l, e)
		if len(b) < 7 {
			for _, one := range letters {
				all(append(b, one))
			}
		}
	}
	all(nil)
	for _, head := range [][]byte{{0, 0, near}, {0, 0, far}, {1, 'A', 0x80, 1, near}, {1, 'A', 0, far, 1}} {
		all(head)
	}
	d := drawer(324)
	right := 0
	for range 200000 {
		b := d.bytes(d.below(24))
		for i := range b {
			switch d.below(4) {
			case 0:
				b[i] &= 1
			case 1:
				b[i] = far + b[i]&1
			case 2:
				b[i] &= 0x8f
			}
		}
		l, e := modelMade(b)
		wantMade(t, b, l, e)
		if e == api.OK && len(l) > 0 {
			right++
			wantMade(t, Communal(l).Body, l, api.OK)
		}
	}
	if right < 300 {
		t.Error("only", right, "of these were right")
	}
}
