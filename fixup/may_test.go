package fixup

import (
	"testing"

	"hansom/api"
)

func TestSize(t *testing.T) {
	wantSize(t, -1, 2)
	wantSize(t, api.LocLow, 1)
	wantSize(t, api.LocOffset, 2)
	wantSize(t, api.LocBase, 2)
	wantSize(t, api.LocPointer, 4)
	wantSize(t, api.LocHigh, 1)
	wantSize(t, 5, 2)
	for loc := -300; loc < 300; loc++ {
		if loc < 0 || loc > 4 {
			wantSize(t, loc, 2)
		}
	}
	for _, loc := range far {
		wantSize(t, loc, 2)
	}
}

// TestMayOfKinds has each kind, from the next byte on or not.
func TestMayOfKinds(t *testing.T) {
	for loc := -20; loc < 70; loc++ {
		wantMay(t, with(func(f *api.Fixup) { f.Loc = loc }), 1000, loc >= 0 && loc <= 4)
		wantMay(t, with(func(f *api.Fixup) { f.Loc, f.Self = loc, true }), 1000, loc == 0 || loc == 1)
	}
	for _, loc := range far {
		wantMay(t, with(func(f *api.Fixup) { f.Loc = loc }), 1000, false)
		wantMay(t, with(func(f *api.Fixup) { f.Loc, f.Self = loc, true }), 1000, false)
	}
}

// TestMayOfPlaces has each place, and data that end just there, or are longer than data are.
func TestMayOfPlaces(t *testing.T) {
	for loc, size := range sizes {
		for at := range 1024 {
			f := with(func(f *api.Fixup) { f.At, f.Loc = at, loc })
			for short := 1; short <= size+1; short++ {
				wantMay(t, f, at+size-short, false)
			}
			wantMay(t, f, at+size, true)
			wantMay(t, f, at+size+1, true)
			wantMay(t, f, 65536, true)
		}
		for _, at := range append(far, -1, -2, -3, -4, -5, 1024, 1025, 1026, 2047, 2048, 65532, 65535) {
			f := with(func(f *api.Fixup) { f.At, f.Loc = at, loc })
			for _, n := range []int{-1, 0, 1, 4, 1023, 1024, 1025, 1028, 2048, 65536, 1 << 40} {
				wantMay(t, f, n, false)
			}
		}
		f := with(func(f *api.Fixup) { f.Loc = loc })
		for _, n := range far {
			wantMay(t, f, n, n > 0)
			wantMay(t, with(func(f *api.Fixup) { f.At, f.Loc = 1023, loc }), n, n > 0)
			wantMay(t, with(func(f *api.Fixup) { f.At, f.Loc = n, loc }), n, false)
		}
		wantMay(t, f, -1, false)
		wantMay(t, f, 0, false)
	}
}

// TestMayAtTheEndOfData has data as long as they are at most.
func TestMayAtTheEndOfData(t *testing.T) {
	for _, c := range []struct {
		loc, at int
		want    bool
	}{
		{api.LocLow, 1022, true}, {api.LocLow, 1023, true}, {api.LocLow, 1024, false}, {api.LocHigh, 1023, true}, {api.LocHigh, 1024, false}, {api.LocOffset, 1022, true}, {api.LocOffset, 1023, false},
		{api.LocBase, 1022, true}, {api.LocBase, 1023, false}, {api.LocPointer, 1020, true}, {api.LocPointer, 1021, false}, {api.LocPointer, 1022, false}, {api.LocPointer, 1023, false},
	} {
		wantMay(t, with(func(f *api.Fixup) { f.At, f.Loc = c.at, c.loc }), api.MostData, c.want)
	}
}

// edges are numbers about those of which an index is.
var edges = append([]int{-2, -1, 0, 1, 2, 127, 128, 255, 256, 32766, 32767, 32768, 32769, 65535}, far...)

func TestMayOfTargets(t *testing.T) {
	for target := -20; target < 20; target++ {
		for _, n := range edges {
			want := target >= 0 && target <= 2 && n >= 1 && n <= 32767
			wantMay(t, with(func(f *api.Fixup) { f.Target, f.N = target, n }), 2, want)
		}
	}
	for _, target := range far {
		for _, n := range edges {
			wantMay(t, with(func(f *api.Fixup) { f.Target, f.N = target, n }), 2, false)
		}
	}
	for n := 1; n < 32768; n++ {
		wantMay(t, with(func(f *api.Fixup) { f.N = n }), 2, true)
	}
}

func TestMayOfFrames(t *testing.T) {
	for frame := -20; frame < 20; frame++ {
		for _, n := range edges {
			want := frame >= 0 && frame <= 2 && n >= 1 && n <= 32767 || (frame == 4 || frame == 5) && n == 0
			wantMay(t, with(func(f *api.Fixup) { f.Frame, f.FrameN = frame, n }), 2, want)
		}
	}
	for _, frame := range far {
		for _, n := range edges {
			wantMay(t, with(func(f *api.Fixup) { f.Frame, f.FrameN = frame, n }), 2, false)
		}
	}
	for n := 1; n < 32768; n++ {
		wantMay(t, with(func(f *api.Fixup) { f.Frame, f.FrameN = api.BySeg, n }), 2, true)
		wantMay(t, with(func(f *api.Fixup) { f.Frame, f.FrameN = api.ByHere, n }), 2, false)
		wantMay(t, with(func(f *api.Fixup) { f.Frame, f.FrameN = api.ByTarget, n }), 2, false)
	}
}

func TestMayOfDisp(t *testing.T) {
	for disp := range 65536 {
		wantMay(t, with(func(f *api.Fixup) { f.Disp = uint16(disp) }), 2, true)
	}
}

func TestMayOfNothing(t *testing.T) {
	for _, n := range []int{0, 1, 4, 1024} {
		wantMay(t, api.Fixup{}, n, false)
	}
}

// TestMayBesideTheModel has what may be of each kind with each frame and target, and drawn ones.
func TestMayBesideTheModel(t *testing.T) {
	for loc := -1; loc < 6; loc++ {
		for frame := -1; frame < 7; frame++ {
			for target := -1; target < 4; target++ {
				for i := range 8 {
					f := api.Fixup{At: 6, Loc: loc, Self: i&1 != 0, Frame: frame, FrameN: i >> 1 & 1, Target: target, N: i >> 2 & 1}
					for n := range 12 {
						wantMay(t, f, n, mayModel(f, n))
					}
				}
			}
		}
	}
	d := drawer(71)
	seen := map[bool]int{}
	for range 50000 {
		f := d.any()
		n := []int{f.At + d.below(6) - 1, d.below(1100), 1024, 1030}[d.below(4)]
		wantMay(t, f, n, mayModel(f, n))
		seen[mayModel(f, n)]++
	}
	if seen[true] < 5000 || seen[false] < 5000 {
		t.Error("too few of one kind are drawn:", seen)
	}
}
