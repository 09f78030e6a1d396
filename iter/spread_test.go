package iter

import (
	"bytes"
	"slices"
	"strings"
	"testing"

	"hansom/api"
)

// TestSpreadByHand begins with example 1.
func TestSpreadByHand(t *testing.T) {
	for _, c := range []struct {
		b    api.Block
		want string
	}{
		{of(2, leaf(3, "x")), "xxxxxx"},
		{leaf(1, "x"), "x"}, {leaf(5, "x"), "xxxxx"}, {leaf(3, "ab"), "ababab"}, {leaf(1, "\x00\xff"), "\x00\xff"},
		{of(1, leaf(1, "a"), leaf(1, "b")), "ab"}, {of(3, leaf(1, "a"), leaf(2, "b")), "abbabbabb"}, {of(2, leaf(1, "b"), leaf(2, "a")), "baabaa"},
		{of(2, of(2, leaf(2, "a"), leaf(1, "b")), leaf(1, "cd")), "aabaabcdaabaabcd"},
		{of(1, leaf(1, "a"), of(2, leaf(1, "b"), of(2, leaf(1, "c"))), leaf(1, "d")), "abccbccd"},
		{chain(8, leaf(2, "ab")), "abab"},
		{of(2, of(1, of(1, of(1, of(1, of(1, of(1, leaf(2, "a")), leaf(1, "b"))))))), "aabaab"},
	} {
		wantMay(t, c.b, true)
		wantSpread(t, c.b, []byte(c.want))
	}
}

func TestSpreadOfTimes(t *testing.T) {
	whole := bytes.Repeat([]byte{'x'}, 65536)
	for n := 1; n <= 65535; n += 1 + n/40 {
		wantSpread(t, leaf(n, "x"), whole[:n])
		wantSpread(t, of(n, leaf(1, "x")), whole[:n])
	}
	wantSpread(t, leaf(65535, "x"), whole[:65535])
	for _, n := range noTimes {
		wantNoSpread(t, leaf(n, "x"))
		wantNoSpread(t, of(n, leaf(1, "x")))
		wantNoSpread(t, of(1, leaf(1, "x"), leaf(n, "x")))
	}
}

func TestSpreadOfBytes(t *testing.T) {
	d := drawer(17)
	b := d.bytes(600)
	for n := range 600 {
		one := api.Block{Times: 2, Bytes: b[:n]}
		if n < 1 || n > 255 {
			wantNoSpread(t, one)
			wantNoSpread(t, of(1, one))
			continue
		}
		wantSpread(t, one, append(slices.Clone(b[:n]), b[:n]...))
		wantSpread(t, of(1, one), append(slices.Clone(b[:n]), b[:n]...))
	}
}

// TestSpreadAtTheMost has blocks that come to MostSpread, to one less and to one more.
func TestSpreadAtTheMost(t *testing.T) {
	whole := bytes.Repeat([]byte("ab"), 32768)
	wantSpread(t, leaf(32768, "ab"), whole)
	wantSpread(t, of(32768, leaf(1, "ab")), whole)
	wantSpread(t, of(32768, leaf(1, "a"), leaf(1, "b")), whole)
	wantSpread(t, of(1, leaf(32767, "ab"), leaf(1, "a")), whole[:65535])
	wantSpread(t, of(1, leaf(32767, "ab"), leaf(1, "a"), leaf(1, "b")), whole)
	wantNoSpread(t, of(1, leaf(32767, "ab"), leaf(1, "a"), leaf(1, "b"), leaf(1, "a")))
	wantNoSpread(t, of(1, leaf(1, "a"), leaf(32768, "ab")))
	wantNoSpread(t, leaf(32769, "ab"))
	wantNoSpread(t, leaf(65535, "ab"))
	wantNoSpread(t, of(65535, leaf(65535, "a")))
	wantSpread(t, of(256, leaf(128, "ab")), whole)
	wantNoSpread(t, of(257, leaf(128, "ab")))
	wantSpread(t, of(4, of(4, of(4, of(4, of(4, of(4, of(4, leaf(2, "ab")))))))), whole)
	wantNoSpread(t, of(4, of(4, of(4, of(4, of(4, of(4, of(4, leaf(2, "ab")), leaf(1, "c"))))))))
	wantSpread(t, of(1, many(65535)...), spreadModel(of(1, many(65535)...)))
	wantNoSpread(t, of(2, many(65535)...))
}

func TestSpreadOfDepth(t *testing.T) {
	for deep := 1; deep <= 20; deep++ {
		if deep > 8 {
			wantNoSpread(t, chain(deep, leaf(3, "ab")))
			continue
		}
		wantSpread(t, chain(deep, leaf(3, "ab")), []byte("ababab"))
	}
	wantNoSpread(t, chain(65536, leaf(3, "ab")))
}

func TestSpreadOfWhatMayNotBe(t *testing.T) {
	for _, b := range []api.Block{
		{}, {Times: 1}, of(1), of(1, api.Block{}), {Times: 1, Bytes: []byte{}, Blocks: []api.Block{}},
		{Times: 1, Bytes: []byte("a"), Blocks: []api.Block{leaf(1, "b")}}, of(1, leaf(1, "a"), api.Block{Times: 1}), of(1, leaf(1, "a"), leaf(0, "b")),
		of(1, many(65536)...), of(0, leaf(65535, "ab")), leaf(0, "ab"), leaf(-1, "ab"), leaf(65536, "a"),
	} {
		wantNoSpread(t, b)
	}
	l := many(2)
	l[1].Blocks = l
	wantNoSpread(t, l[1])
}

// TestSpreadOfManyBlocks has more blocks in blocks than can be gone over one by one.
func TestSpreadOfManyBlocks(t *testing.T) {
	b := leaf(1, "x")
	for range 7 {
		b = of(1, slices.Repeat([]api.Block{b}, 65535)...)
	}
	wantNoSpread(t, b)
}

func TestSpreadBesideTheModel(t *testing.T) {
	d := drawer(19)
	spreads := 0
	for range 15000 {
		for _, b := range []api.Block{d.any(1 + d.below(5)), d.small(1 + d.below(8)), d.good(1 + d.below(3))} {
			if !mayModel(b) || sizeModel(b) > 65536 {
				wantNoSpread(t, b)
				continue
			}
			want := spreadModel(b)
			wantSpread(t, b, want)
			wantSize(t, b, len(want))
			spreads++
		}
	}
	if spreads < 15000 {
		t.Error("of the drawn ones just", spreads, "spread")
	}
}

// TestSpreadKeepsOrder has each byte's value once, in blocks of all kinds.
func TestSpreadKeepsOrder(t *testing.T) {
	all := make([]byte, 256)
	var l []api.Block
	for v := range all {
		all[v] = byte(v)
		l = append(l, chain(1+v%7, leaf(1, string([]byte{byte(v)}))))
	}
	wantSpread(t, of(1, l...), all)
	wantSpread(t, of(3, l...), []byte(strings.Repeat(string(all), 3)))
}
