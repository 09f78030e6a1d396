package iter

import (
	"bytes"
	"slices"
	"testing"

	"hansom/api"
)

func TestMayOfTimes(t *testing.T) {
	for n := 1; n <= 65535; n++ {
		wantMay(t, leaf(n, "x"), true)
		wantMay(t, of(n, leaf(1, "x")), true)
		wantMay(t, of(1, leaf(n, "x")), true)
	}
	for _, n := range noTimes {
		wantMay(t, leaf(n, "x"), false)
		wantMay(t, of(n, leaf(1, "x")), false)
		wantMay(t, of(1, leaf(n, "x")), false)
		wantMay(t, chain(8, leaf(n, "x")), false)
		wantMay(t, of(n), false)
	}
}

func TestMayOfBytes(t *testing.T) {
	for n := range 600 {
		b := api.Block{Times: 1, Bytes: make([]byte, n)}
		wantMay(t, b, n >= 1 && n <= 255)
		wantMay(t, of(2, b), n >= 1 && n <= 255)
		wantMay(t, chain(8, b), n >= 1 && n <= 255)
	}
	for _, n := range []int{1023, 1024, 1025, 65535, 65536, 65537, 65791, 1 << 20} {
		wantMay(t, api.Block{Times: 1, Bytes: make([]byte, n)}, false)
	}
}

// TestMayAsksNoByte has each value of a byte.
func TestMayAsksNoByte(t *testing.T) {
	for v := range 256 {
		wantMay(t, api.Block{Times: 1, Bytes: []byte{byte(v)}}, true)
		wantMay(t, api.Block{Times: 1, Bytes: bytes.Repeat([]byte{byte(v)}, 255)}, true)
	}
}

func TestMayOfNothing(t *testing.T) {
	for _, b := range []api.Block{
		{}, {Times: 1}, {Times: 65535}, {Times: 1, Bytes: []byte{}}, {Times: 1, Blocks: []api.Block{}}, {Times: 1, Bytes: []byte{}, Blocks: []api.Block{}},
		of(1, api.Block{}), of(1, api.Block{Times: 1}), of(1, of(1)),
	} {
		wantMay(t, b, false)
	}
}

// TestMayOfEmptyLists has what is empty beside what is there.
func TestMayOfEmptyLists(t *testing.T) {
	wantMay(t, api.Block{Times: 1, Bytes: []byte{7}, Blocks: []api.Block{}}, true)
	wantMay(t, api.Block{Times: 1, Bytes: []byte{}, Blocks: many(1)}, true)
	wantMay(t, api.Block{Times: 1, Bytes: make([]byte, 0, 9), Blocks: many(2)}, true)
}

func TestMayOfBytesAndBlocks(t *testing.T) {
	for _, n := range []int{1, 2, 255, 256, 1000} {
		b := api.Block{Times: 1, Bytes: make([]byte, n), Blocks: many(1)}
		wantMay(t, b, false)
		wantMay(t, of(1, b), false)
		b.Blocks = many(3)
		wantMay(t, b, false)
		b.Blocks = []api.Block{{}}
		wantMay(t, b, false)
	}
}

func TestMayOfCountsOfBlocks(t *testing.T) {
	for _, n := range []int{1, 2, 3, 255, 256, 257, 32767, 32768, 65534, 65535, 65536, 65537, 65538, 131071, 131072, 131073} {
		wantMay(t, of(1, many(n)...), n <= 65535)
		wantMay(t, of(65535, of(1, many(n)...)), n <= 65535)
	}
}

func TestMayOfDepth(t *testing.T) {
	for deep := 1; deep <= 40; deep++ {
		wantMay(t, chain(deep, leaf(1, "x")), deep <= 8)
		wantMay(t, chain(deep, leaf(65535, "x")), deep <= 8)
		wantMay(t, chain(deep, api.Block{Times: 1}), false)
		wantMay(t, chain(deep, leaf(0, "x")), false)
	}
	for _, deep := range []int{255, 256, 257, 264, 65536, 65544, 100000} {
		wantMay(t, chain(deep, leaf(1, "x")), false)
	}
	if api.MostDepth != 8 {
		t.Error("blocks are", api.MostDepth, "deep at most")
	}
}

// TestMayOfOneAmongOthers has one that may not be, or is too deep, at each place of a list, at each depth.
func TestMayOfOneAmongOthers(t *testing.T) {
	for deep := 2; deep <= 8; deep++ {
		for _, wrong := range []api.Block{{}, leaf(0, "x"), leaf(1, ""), leaf(65536, "x"), leaf(-1, "x"), of(1), {Times: 1, Bytes: make([]byte, 256)}, {Times: 1, Bytes: []byte{1}, Blocks: many(1)}, chain(10-deep, leaf(1, "x"))} {
			for at := range 5 {
				l := many(5)
				wantMay(t, chain(deep-1, of(3, l...)), true)
				l[at] = wrong
				wantMay(t, chain(deep-1, of(3, l...)), false)
			}
		}
		for at := range 5 {
			l := many(5)
			l[at] = chain(9-deep, leaf(1, "x"))
			wantMay(t, chain(deep-1, of(3, l...)), true)
		}
	}
}

// TestMayOfItself has lists that stand within themselves: they are deeper than any.
func TestMayOfItself(t *testing.T) {
	for at := range 4 {
		l := many(4)
		l[at] = of(1, l...)
		l[at].Blocks = l
		wantMay(t, l[at], false)
		wantMay(t, of(1, l...), false)
	}
}

func TestMayBesideTheModel(t *testing.T) {
	d := drawer(11)
	mays := 0
	for range 30000 {
		b := d.any(1 + d.below(10))
		want := mayModel(b)
		wantMay(t, b, want)
		wantMay(t, d.good(1+d.below(8)), true)
		if want {
			mays++
		}
	}
	if mays < 1000 {
		t.Error("of the drawn ones just", mays, "may be")
	}
}

// TestMayOfGreatOnes asks nothing of how many bytes there are in all.
func TestMayOfGreatOnes(t *testing.T) {
	b := api.Block{Times: 65535, Bytes: make([]byte, 255)}
	for range 7 {
		b = of(65535, b)
	}
	wantMay(t, b, true)
	wantMay(t, of(1, b), false)
	wantMay(t, of(65535, slices.Repeat([]api.Block{leaf(65535, "xyz")}, 65535)...), true)
}
