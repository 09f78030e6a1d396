package iter

import (
	"math"
	"slices"
	"testing"

	"hansom/api"
)

func TestSizeByHand(t *testing.T) {
	for _, c := range []struct {
		b    api.Block
		want int
	}{
		{leaf(1, "x"), 1}, {leaf(2, "x"), 2}, {leaf(1, "xyz"), 3}, {leaf(7, "xyz"), 21},
		{of(2, leaf(3, "x")), 6}, {of(1, leaf(1, "x")), 1}, {of(5, leaf(1, "ab"), leaf(3, "c")), 25},
		{of(2, of(3, leaf(5, "ab"), leaf(1, "c")), leaf(4, "d")), 74},
		{chain(8, leaf(9, "ab")), 18}, {of(2, of(2, of(2, of(2, of(2, of(2, of(2, leaf(2, "x")))))))), 256},
		{api.Block{}, 0}, {api.Block{Times: 5}, 0}, {leaf(0, "x"), 0}, {of(0, leaf(5, "x")), 0}, {of(5, leaf(0, "x")), 0}, {of(5), 0}, {of(5, of(5)), 0},
		{of(2, leaf(0, "xyz"), leaf(3, "ab"), api.Block{Times: 9}), 12},
	} {
		wantSize(t, c.b, c.want)
	}
}

func TestSizeOfTimes(t *testing.T) {
	for n := range 70000 {
		wantSize(t, leaf(n, "x"), min(n, 65537))
		wantSize(t, leaf(n, "xyz"), min(3*n, 65537))
		wantSize(t, of(n, leaf(2, "x")), min(2*n, 65537))
		wantSize(t, of(2, leaf(n, "x"), leaf(1, "y")), min(2*n+2, 65537))
	}
}

func TestSizeOfBytes(t *testing.T) {
	for n := range 256 {
		b := api.Block{Times: 3, Bytes: make([]byte, n)}
		wantSize(t, b, 3*n)
		wantSize(t, of(5, b, b), 30*n)
	}
	// More bytes than there may be count, too.
	for _, n := range []int{256, 257, 300, 512, 65535, 65536, 65537, 65538, 1 << 20} {
		wantSize(t, api.Block{Times: 1, Bytes: make([]byte, n)}, min(n, 65537))
		wantSize(t, api.Block{Times: 2, Bytes: make([]byte, n)}, min(2*n, 65537))
	}
}

func TestSizeOfCountsOfBlocks(t *testing.T) {
	for _, n := range []int{1, 2, 255, 256, 257, 65534, 65535, 65536, 65537, 65538, 131072} {
		wantSize(t, of(1, many(n)...), min(n, 65537))
		wantSize(t, of(2, many(n)...), min(2*n, 65537))
		wantSize(t, of(0, many(n)...), 0)
		wantSize(t, of(-1, many(n)...), 0)
	}
}

// TestSizeAtTheMost has blocks that come to MostSpread, one less, one more, and far more.
func TestSizeAtTheMost(t *testing.T) {
	for _, c := range []struct {
		b    api.Block
		want int
	}{
		{leaf(65535, "x"), 65535}, {leaf(65536, "x"), 65536}, {leaf(65537, "x"), 65537}, {leaf(65538, "x"), 65537},
		{leaf(32768, "xy"), 65536}, {leaf(32769, "xy"), 65537}, {leaf(21845, "xyz"), 65535}, {leaf(21846, "xyz"), 65537},
		{of(256, leaf(256, "x")), 65536}, {of(256, leaf(257, "x")), 65537}, {of(257, leaf(256, "x")), 65537}, {of(257, leaf(255, "x")), 65535},
		{of(1, leaf(65535, "x"), leaf(1, "y")), 65536}, {of(1, leaf(1, "y"), leaf(65535, "x")), 65536},
		{of(1, leaf(65535, "x"), leaf(2, "y")), 65537}, {of(1, leaf(65535, "x"), leaf(1, "y"), leaf(1, "z")), 65537},
		{of(1, leaf(65535, "x"), leaf(65535, "y")), 65537}, {of(2, leaf(32767, "x"), leaf(1, "y")), 65536}, {of(2, leaf(32767, "x"), leaf(2, "y")), 65537},
		{of(1, leaf(65535, "x"), leaf(0, "y")), 65535}, {of(1, leaf(65535, "x"), leaf(-5, "y"), leaf(1, "z")), 65536},
		{of(4, of(4, of(4, of(4, of(4, of(4, of(4, leaf(4, "x")))))))), 65536},
		{of(4, of(4, of(4, of(4, of(4, of(4, of(4, leaf(4, "x"), leaf(1, "x")))))))), 65537},
		{of(65535, leaf(65535, "x")), 65537}, {leaf(65535, "xy"), 65537},
		{of(1, of(1, leaf(65535, "xy")), leaf(1, "y")), 65537}, {of(0, leaf(65535, "xy")), 0}, {of(1, of(0, leaf(65535, "xy")), leaf(1, "y")), 1},
	} {
		wantSize(t, c.b, c.want)
		wantSize(t, of(1, c.b), c.want)
		wantSize(t, chain(8, c.b), c.want)
		wantSize(t, of(1, c.b, leaf(0, "z")), c.want)
		wantSize(t, of(1, api.Block{}, c.b), c.want)
	}
	if api.MostSpread != 65536 {
		t.Error("blocks spread to", api.MostSpread, "bytes at most")
	}
}

// TestSizeOfGreatProducts has numbers whose product no word of the machine holds, some of which would come to few in it.
func TestSizeOfGreatProducts(t *testing.T) {
	for _, times := range []int{math.MaxInt, math.MaxInt - 1, 1 << 62, 1 << 61, 1 << 48, 1 << 32, 1<<32 + 1, 1 << 31, math.MaxInt32, 1<<62 + 1, 6148914691236517206} {
		wantSize(t, leaf(times, "x"), 65537)
		wantSize(t, leaf(times, "xy"), 65537)
		wantSize(t, leaf(times, "xyz"), 65537)
		wantSize(t, leaf(times, "abcd"), 65537)
		wantSize(t, api.Block{Times: times, Bytes: make([]byte, 256)}, 65537)
		wantSize(t, api.Block{Times: times, Bytes: make([]byte, 65536)}, 65537)
		wantSize(t, of(times, leaf(times, "x")), 65537)
		wantSize(t, of(times, of(times, leaf(times, "abcd"))), 65537)
		wantSize(t, of(2, leaf(times, "x"), leaf(times, "y")), 65537)
		wantSize(t, of(times), 0)
		wantSize(t, leaf(times, ""), 0)
		wantSize(t, of(times, leaf(0, "x")), 0)
		wantSize(t, of(times, leaf(-times, "x")), 0)
		wantSize(t, of(0, leaf(times, "x")), 0)
	}
	b := api.Block{Times: 65535, Bytes: make([]byte, 255)}
	for range 300 {
		b = of(65535, b)
		wantSize(t, b, 65537)
	}
	wantSize(t, of(0, b), 0)
	for _, times := range []int{2, 4, 256, 65536} {
		b = leaf(times, "x")
		for range 200 {
			b = of(times, b)
		}
		wantSize(t, b, 65537)
	}
}

// TestSizeOfManyBlocks has so many blocks in blocks that they can't be gone over one by one.
func TestSizeOfManyBlocks(t *testing.T) {
	b := leaf(1, "x")
	for range 8 {
		b = of(1, slices.Repeat([]api.Block{b}, 65535)...)
	}
	wantSize(t, b, 65537)
	wantSize(t, of(0, b), 0)
	wantSize(t, of(-1, b), 0)
}

func TestSizeOfTimesBelowNought(t *testing.T) {
	for _, n := range []int{-1, -2, -255, -65535, -65536, -65537, math.MinInt32, math.MinInt, math.MinInt + 1} {
		wantSize(t, leaf(n, "x"), 0)
		wantSize(t, leaf(n, "xyz"), 0)
		wantSize(t, of(n, leaf(2, "x")), 0)
		wantSize(t, of(n, leaf(n, "x")), 0)
		wantSize(t, of(-1, of(n, leaf(3, "x"))), 0)
		wantSize(t, of(3, leaf(n, "x"), leaf(2, "y")), 6)
		wantSize(t, of(3, leaf(2, "y"), leaf(n, "x")), 6)
		wantSize(t, of(3, leaf(2, "y"), of(n, leaf(5, "x"))), 6)
	}
}

// TestSizeOfBytesAndBlocks has blocks beside bytes: a block that has blocks consists of these.
func TestSizeOfBytesAndBlocks(t *testing.T) {
	wantSize(t, api.Block{Times: 2, Bytes: []byte("abc"), Blocks: []api.Block{leaf(5, "x")}}, 10)
	wantSize(t, api.Block{Times: 2, Bytes: []byte("abc"), Blocks: []api.Block{{}}}, 0)
	wantSize(t, api.Block{Times: 2, Bytes: []byte("abc"), Blocks: []api.Block{}}, 6)
	wantSize(t, api.Block{Times: 2, Bytes: []byte{}, Blocks: []api.Block{leaf(5, "x")}}, 10)
}

// TestSizeOfDepth has blocks that are deeper than any that may be.
func TestSizeOfDepth(t *testing.T) {
	for _, deep := range []int{8, 9, 10, 100, 255, 256, 257, 65535, 65536} {
		wantSize(t, chain(deep, leaf(5, "xyz")), 15)
		wantSize(t, chain(deep, leaf(5, "")), 0)
		wantSize(t, of(2, chain(deep-1, leaf(5, "x")), leaf(1, "y")), 12)
	}
}

// TestSizeOfItself has lists that stand within themselves: whatever they come to, it ends.
func TestSizeOfItself(t *testing.T) {
	for at := range 4 {
		l := many(4)
		l[at].Blocks = l
		Size(l[at])
		wantSize(t, of(0, l...), 0)
		l[at].Times = 0
		wantSize(t, of(1, l...), 3)
	}
}

func TestSizeBesideTheModel(t *testing.T) {
	d := drawer(13)
	for range 30000 {
		b := d.any(1 + d.below(6))
		wantSize(t, b, sizeModel(b))
		b = d.small(1 + d.below(8))
		wantSize(t, b, sizeModel(b))
		b = d.good(1 + d.below(4))
		wantSize(t, b, sizeModel(b))
	}
}
