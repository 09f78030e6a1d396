package fixup

import (
	"bytes"
	"slices"
	"testing"

	"hansom/api"
)

func TestGetOfNone(t *testing.T) {
	for _, n := range []int{-1, 0, 1, 1024, 65536} {
		for _, b := range [][]byte{nil, {}} {
			wantGot(t, b, n, no, nil, no)
			wantGot(t, b, n, all, nil, all)
		}
	}
}

func TestGetByHand(t *testing.T) {
	var b []byte
	var l []api.Fixup
	for _, c := range byHand {
		one := told(t, c.text)
		wantGot(t, one, 1030, no, []api.Fixup{c.f}, no)
		wantGot(t, one, 1030, all, []api.Fixup{c.f}, all)
		b = append(b, one...)
		l = append(l, c.f)
		wantGot(t, b, 1030, no, l, no)
	}
	for _, c := range []struct {
		text string
		f    api.Fixup
	}{
		// A Disp of 0, told out, and indices of two bytes where one would do.
		{"c400 50 01 0000", plain},
		{"c400 54 8001", plain},
		{"c400 44 01", with(func(f *api.Fixup) { f.Frame = api.ByHere })},
		{"c400 04 8005 8001", with(func(f *api.Fixup) { f.Frame, f.FrameN = api.BySeg, 5 })},
		{"c400 00 8005 8001 0000", with(func(f *api.Fixup) { f.Frame, f.FrameN = api.BySeg, 5 })},
	} {
		wantGot(t, told(t, c.text), 2, no, []api.Fixup{c.f}, no)
	}
}

// TestGetOfRecord goes there and back.
func TestGetOfRecord(t *testing.T) {
	d := drawer(89)
	for range 10000 {
		l := make([]api.Fixup, d.below(6))
		for i := range l {
			l[i] = d.good()
		}
		wantGot(t, Record(l).Body, 1027+d.below(5), no, l, no)
		for _, f := range l {
			wantGot(t, Put(f), 1027, all, []api.Fixup{f}, all)
		}
	}
	l := make([]api.Fixup, 5000)
	for i := range l {
		l[i] = d.good()
	}
	wantGot(t, Record(l).Body, 1027, all, l, all)
}

func TestGetOfEachPlace(t *testing.T) {
	for loc, size := range sizes {
		for place := range 1024 {
			f := with(func(f *api.Fixup) { f.At, f.Loc = place, loc })
			wantGot(t, body(f), place+size, no, []api.Fixup{f}, no)
			wantGot(t, body(f), 65536, no, []api.Fixup{f}, no)
			wantWrong(t, body(f), place+size-1, no, api.ErrForm)
			wantWrong(t, body(f), 0, no, api.ErrForm)
			wantWrong(t, body(f), -1, no, api.ErrForm)
		}
	}
}

func TestGetOfIndices(t *testing.T) {
	for n := range 32768 {
		b := []byte{byte(128 + n/256), byte(n % 256)}
		target, frame := with(func(f *api.Fixup) { f.N = n }), with(func(f *api.Fixup) { f.Frame, f.FrameN = api.ByExt, n })
		if n == 0 {
			wantWrong(t, slices.Concat(told(t, "c400 54"), b), 2, no, api.ErrForm)
			wantWrong(t, slices.Concat(told(t, "c400 24"), b, []byte{1}), 2, no, api.ErrForm)
			wantWrong(t, told(t, "c400 54 00"), 2, no, api.ErrForm)
			wantWrong(t, told(t, "c400 24 00 01"), 2, no, api.ErrForm)
			continue
		}
		wantGot(t, slices.Concat(told(t, "c400 54"), b), 2, no, []api.Fixup{target}, no)
		wantGot(t, slices.Concat(told(t, "c400 24"), b, []byte{1}), 2, no, []api.Fixup{frame}, no)
		wantGot(t, body(target, frame), 2, no, []api.Fixup{target, frame}, no)
	}
}

func TestGetOfEachDisp(t *testing.T) {
	for disp := range 65536 {
		f := with(func(f *api.Fixup) { f.Disp = uint16(disp) })
		wantGot(t, []byte{0xc4, 0, 0x50, 1, byte(disp % 256), byte(disp / 256)}, 2, no, []api.Fixup{f}, no)
	}
}

// TestGetOfFirstBytes has all first bytes of fixups.
func TestGetOfFirstBytes(t *testing.T) {
	for first := 128; first < 256; first++ {
		self, loc, upper := first < 192, first/4%16, first%4
		f := with(func(f *api.Fixup) { f.At, f.Loc, f.Self = 256*upper+9, loc, self })
		b := []byte{byte(first), 9, 0x54, 1}
		if loc > 4 || self && loc > 1 {
			wantWrong(t, b, 1024, no, api.ErrForm)
			continue
		}
		wantGot(t, b, 1024, no, []api.Fixup{f}, no)
		wantGot(t, b, 256*upper+9+sizes[loc], no, []api.Fixup{f}, no)
		wantWrong(t, b, 256*upper+8+sizes[loc], no, api.ErrForm)
	}
}

// TestGetOfThirdBytes has all third bytes, with threads and without.
func TestGetOfThirdBytes(t *testing.T) {
	for third := range 256 {
		f := api.Fixup{At: 5, Loc: api.LocBase, Frame: third / 16, Target: third % 4}
		b := []byte{0xc8, 5, byte(third)}
		wrong := false
		switch {
		case third >= 128:
			of := all.Frame[third/16%4]
			f.Frame, f.FrameN = of.By, of.N
		case f.Frame < 3:
			b = append(b, 0x81, 2)
			f.FrameN = 258
		case f.Frame == 3 || f.Frame > 5:
			wrong = true
		}
		if third%16 >= 8 {
			of := all.Target[third%4]
			f.Target, f.N = of.By, of.N
		} else {
			b = append(b, 7)
			f.N = 7
			wrong = wrong || f.Target == 3
		}
		if third%8 < 4 {
			b = append(b, 0x34, 0x12)
			f.Disp = 0x1234
		}
		if third >= 128 || third%16 >= 8 {
			wantWrong(t, b, 1024, no, api.ErrIndex)
		}
		if wrong {
			wantWrong(t, b, 1024, all, api.ErrForm)
			continue
		}
		wantGot(t, b, 1024, all, []api.Fixup{f}, all)
		wantGot(t, append(b, b...), 1024, all, []api.Fixup{f, f}, all)
	}
}

// TestGetWithBytesMissing has records cut off behind each of their bytes.
func TestGetWithBytesMissing(t *testing.T) {
	d := drawer(97)
	for range 3000 {
		l := []api.Fixup{d.good(), d.good(), d.good()}
		ends := map[int]int{0: 0}
		for i := range l {
			ends[len(body(l[:i+1]...))] = i + 1
		}
		b := body(l...)
		for n := range len(b) + 1 {
			if whole, is := ends[n]; is {
				wantGot(t, b[:n], 1030, all, l[:whole], all)
				continue
			}
			wantWrong(t, b[:n], 1030, no, api.ErrShort)
			wantWrong(t, b[:n], 1030, all, api.ErrShort)
		}
	}
	for v := 128; v < 256; v++ {
		wantWrong(t, []byte{byte(v)}, 1024, all, api.ErrShort)
		wantWrong(t, []byte{byte(v), 0}, 1024, all, api.ErrShort)
	}
	for _, text := range []string{"00", "01", "04", "08", "40", "44", "48", "4b", "13", "17", "1b", "00 80", "48 ff", "48 02 4b 80", "00 01 04", "c400 54 01 00", "c400 84", "c400 0c", "c400 88 34", "c400 8c c4"} {
		wantWrong(t, told(t, text), 1024, all, api.ErrShort)
	}
}

// threads are what bytes tell, of frames or of targets.
var threads = []struct {
	text   string
	frame  bool
	which  int
	thread api.Thread
}{
	{"00 01", false, 0, api.Thread{Is: true, By: api.BySeg, N: 1}},
	{"01 7f", false, 1, api.Thread{Is: true, By: api.BySeg, N: 127}},
	{"06 8080", false, 2, api.Thread{Is: true, By: api.ByGroup, N: 128}},
	{"0b ffff", false, 3, api.Thread{Is: true, By: api.ByExt, N: 32767}},
	{"08 8005", false, 0, api.Thread{Is: true, By: api.ByExt, N: 5}},
	// The upper bit of how counts for nothing.
	{"11 05", false, 1, api.Thread{Is: true, By: api.BySeg, N: 5}},
	{"16 812c", false, 2, api.Thread{Is: true, By: api.ByGroup, N: 300}},
	{"1b 05", false, 3, api.Thread{Is: true, By: api.ByExt, N: 5}},
	{"40 01", true, 0, api.Thread{Is: true, By: api.BySeg, N: 1}},
	{"41 7f", true, 1, api.Thread{Is: true, By: api.BySeg, N: 127}},
	{"46 8080", true, 2, api.Thread{Is: true, By: api.ByGroup, N: 128}},
	{"4b ffff", true, 3, api.Thread{Is: true, By: api.ByExt, N: 32767}},
	{"48 8005", true, 0, api.Thread{Is: true, By: api.ByExt, N: 5}},
	{"51", true, 1, api.Thread{Is: true, By: api.ByHere}},
	{"57", true, 3, api.Thread{Is: true, By: api.ByTarget}},
	// An index of 0 may be told; what is meant by it may not be.
	{"02 00", false, 2, api.Thread{Is: true, By: api.BySeg}},
	{"46 00", true, 2, api.Thread{Is: true, By: api.ByGroup}},
}

// set is threads of which one is told.
func set(of api.Threads, frame bool, which int, thread api.Thread) api.Threads {
	if frame {
		of.Frame[which] = thread
	} else {
		of.Target[which] = thread
	}
	return of
}

// meaning is a fixup's bytes, and the fixup, that means a thread, and tells the other itself.
func meaning(frame bool, which int, of api.Thread) ([]byte, api.Fixup) {
	if frame {
		return []byte{0xc4, 0, byte(0x84 + 16*which), 1}, with(func(f *api.Fixup) { f.Frame, f.FrameN = of.By, of.N })
	}
	return []byte{0xc4, 0, byte(0x5c + which)}, with(func(f *api.Fixup) { f.Target, f.N = of.By, of.N })
}

func TestGetOfThreads(t *testing.T) {
	for _, c := range threads {
		b := told(t, c.text)
		behind := set(no, c.frame, c.which, c.thread)
		wantGot(t, b, 1024, no, nil, behind)
		wantGot(t, b, -1, no, nil, behind)
		wantGot(t, b, 1024, all, nil, set(all, c.frame, c.which, c.thread))
		// None is shown by a thread that is told: neither others, nor those of the other kind.
		for which := range 4 {
			for _, frame := range []bool{false, true} {
				means, f := meaning(frame, which, c.thread)
				whole := append(slices.Clone(b), means...)
				switch {
				case frame != c.frame || which != c.which:
					wantWrong(t, whole, 1024, no, api.ErrIndex)
				case mayModel(f, 1024):
					wantGot(t, whole, 1024, no, []api.Fixup{f}, behind)
					wantGot(t, whole, 1024, all, []api.Fixup{f}, set(all, c.frame, c.which, c.thread))
				default:
					wantWrong(t, whole, 1024, no, api.ErrForm)
				}
				// What is told behind it comes too late.
				wantWrong(t, slices.Concat(means, b), 1024, no, api.ErrIndex)
			}
		}
	}
}

// TestGetOfEachThread has each way of each thread.
func TestGetOfEachThread(t *testing.T) {
	for first := range 128 {
		frame, never, how, which := first >= 64, first/32%2 == 1, first/4%8, first%4
		by := how
		if !frame {
			by = how % 4
		}
		for _, index := range []struct {
			text string
			n    int
		}{{"05", 5}, {"7f", 127}, {"8080", 128}, {"812c", 300}} {
			b := append([]byte{byte(first)}, told(t, index.text)...)
			n := index.n
			if by == 4 || by == 5 {
				b, n = b[:1], 0
			}
			if never || by == 3 || by > 5 {
				wantWrong(t, b, 1024, all, api.ErrForm)
				// What stands behind it, or whether anything does, counts for nothing.
				wantWrong(t, b[:1], 1024, all, api.ErrForm)
				wantWrong(t, append(b, body(plain)...), 1024, all, api.ErrForm)
				continue
			}
			thread := api.Thread{Is: true, By: by, N: n}
			means, f := meaning(frame, which, thread)
			wantGot(t, b, 1024, no, nil, set(no, frame, which, thread))
			wantGot(t, append(b, means...), 1024, no, []api.Fixup{f}, set(no, frame, which, thread))
		}
	}
}

// TestGetOfThreadsToldAnew has what each fixup means: the one that was told last ahead of it.
func TestGetOfThreadsToldAnew(t *testing.T) {
	b := told(t, "02 05  c400 5e  02 06  c400 5e  06 07  c400 5e  0a 8100  c400 5e  c404 5e")
	var l []api.Fixup
	for _, c := range []struct{ at, target, n int }{{0, 0, 5}, {0, 0, 6}, {0, 1, 7}, {0, 2, 256}, {4, 2, 256}} {
		l = append(l, with(func(f *api.Fixup) { f.At, f.Target, f.N = c.at, c.target, c.n }))
	}
	wantGot(t, b, 6, no, l, set(no, false, 2, api.Thread{Is: true, By: 2, N: 256}))
	wantGot(t, b, 6, all, l, set(all, false, 2, api.Thread{Is: true, By: 2, N: 256}))
	b = told(t, "43 05  c400 b4 01  43 06  c400 b4 01  57  c400 b4 01  53  c400 b0 01 0900  4b 02")
	l = nil
	for _, c := range []struct{ frame, n, disp int }{{0, 5, 0}, {0, 6, 0}, {5, 0, 0}, {4, 0, 9}} {
		l = append(l, with(func(f *api.Fixup) { f.Frame, f.FrameN, f.Disp = c.frame, c.n, uint16(c.disp) }))
	}
	wantGot(t, b, 6, no, l, set(no, true, 3, api.Thread{Is: true, By: 2, N: 2}))
	wantGot(t, b, 6, all, l, set(all, true, 3, api.Thread{Is: true, By: 2, N: 2}))
	// Both, one behind the other, and what is told last without any fixup.
	b = told(t, "40 01 00 01  c400 8c  44 02 04 02  c400 8c  48 03 08 03")
	l = []api.Fixup{{Loc: 1, FrameN: 1, N: 1}, {Loc: 1, Frame: 1, FrameN: 2, Target: 1, N: 2}}
	wantGot(t, b, 6, no, l, set(set(no, true, 0, api.Thread{Is: true, By: 2, N: 3}), false, 0, api.Thread{Is: true, By: 2, N: 3}))
}

// TestGetFromRecordToRecord hands the threads behind one to the next.
func TestGetFromRecordToRecord(t *testing.T) {
	l, behind, e := Get(told(t, "50 09 06"), 10, no)
	if e != api.OK || len(l) != 0 {
		t.Fatal(l, e)
	}
	wantGot(t, told(t, "c400 8d"), 10, behind, []api.Fixup{{Loc: 1, Frame: 4, Target: 2, N: 6}}, behind)
	wantWrong(t, told(t, "c400 9d"), 10, behind, api.ErrIndex)
	wantWrong(t, told(t, "c400 8c"), 10, behind, api.ErrIndex)
	// With an error there are none.
	wantWrong(t, told(t, "51 01 05 c400 8e"), 10, behind, api.ErrIndex)
}

// TestGetOfThreadsHandedIn has threads that no record tells.
func TestGetOfThreadsHandedIn(t *testing.T) {
	for _, thread := range []api.Thread{{}, {By: 1, N: 5}, {By: 5}, {N: -1}, {By: 7, N: 1 << 40}} {
		for which := range 4 {
			for _, frame := range []bool{false, true} {
				b, _ := meaning(frame, which, thread)
				wantWrong(t, b, 10, set(all, frame, which, thread), api.ErrIndex)
				wantGot(t, body(plain), 10, set(all, frame, which, thread), []api.Fixup{plain}, set(all, frame, which, thread))
			}
		}
	}
	for by := -3; by < 10; by++ {
		for _, n := range edges {
			thread := api.Thread{Is: true, By: by, N: n}
			for which := range 4 {
				for _, frame := range []bool{false, true} {
					b, f := meaning(frame, which, thread)
					if mayModel(f, 10) {
						wantGot(t, b, 10, set(no, frame, which, thread), []api.Fixup{f}, set(no, frame, which, thread))
						continue
					}
					wantWrong(t, b, 10, set(no, frame, which, thread), api.ErrForm)
				}
			}
		}
	}
}

// TestGetOfWhatMayNotBe has a fixup that may not be at each place.
func TestGetOfWhatMayNotBe(t *testing.T) {
	for _, text := range []string{"d400 54 01", "fc00 54 01", "8800 54 01", "8c00 54 01", "9000 54 01", "c40a 54 01", "c409 54 01", "c500 54 01", "c7ff 54 01", "cc07 54 01", "c400 34 01", "c400 64 01", "c400 74 01", "c400 57 01", "c400 54 00", "c400 54 8000", "c400 04 00 01", "c400 14 8000 01", "c400 24 01 00", "c400 30 01 0900"} {
		wrong := told(t, text)
		wantWrong(t, wrong, 10, no, api.ErrForm)
		for i := range 4 {
			var parts [][]byte
			for k := range 4 {
				parts = append(parts, body(with(func(f *api.Fixup) { f.At = k })))
			}
			parts[i] = wrong
			wantWrong(t, bytes.Join(parts, nil), 10, no, api.ErrForm)
			wantWrong(t, bytes.Join(parts, told(t, "51 01 05")), 10, all, api.ErrForm)
		}
	}
}

// TestGetWhereTwoAreWrong has what is told of two errors: one behind the other the first, of one fixup as the promise names them, once all of it is there.
func TestGetWhereTwoAreWrong(t *testing.T) {
	short, form, unknown, never := told(t, "c400 54"), told(t, "d400 54 01"), told(t, "c400 84 01"), told(t, "20 01")
	for _, c := range []struct {
		parts [][]byte
		want  api.Errno
	}{
		{[][]byte{form, unknown}, api.ErrForm}, {[][]byte{unknown, form}, api.ErrIndex}, {[][]byte{form, short}, api.ErrForm}, {[][]byte{unknown, short}, api.ErrIndex},
		{[][]byte{never, unknown}, api.ErrForm}, {[][]byte{unknown, never}, api.ErrIndex}, {[][]byte{never, short}, api.ErrForm}, {[][]byte{form, unknown, short}, api.ErrForm},
	} {
		wantWrong(t, bytes.Join(c.parts, nil), 10, no, c.want)
		wantWrong(t, slices.Concat(body(plain), bytes.Join(c.parts, body(plain))), 10, no, c.want)
	}
	for _, c := range []struct {
		text string
		want api.Errno
	}{
		// A thread that was not told, of a fixup that may not be.
		{"d400 84 01", api.ErrIndex}, {"d400 5c", api.ErrIndex}, {"8800 84 01", api.ErrIndex}, {"c409 8c", api.ErrIndex}, {"c400 6c", api.ErrIndex}, {"c400 87 01", api.ErrIndex}, {"c400 84 00", api.ErrIndex}, {"c400 0c 00", api.ErrIndex},
		// Of one that isn't whole: what is told first.
		{"c400 84", api.ErrIndex}, {"c400 5c", api.ErrIndex}, {"c400 58", api.ErrIndex}, {"c400 80 01", api.ErrIndex}, {"c400 80 01 09", api.ErrIndex}, {"c400 88", api.ErrIndex}, {"c400 0c", api.ErrShort}, {"c400 0c 80", api.ErrShort},
		// One that may not be isn't there till all of it is.
		{"fc", api.ErrShort}, {"fc00", api.ErrShort}, {"d400 54", api.ErrShort}, {"d400 54 80", api.ErrShort}, {"d400 50 01", api.ErrShort}, {"c400 50 00 09", api.ErrShort}, {"c409 50 01", api.ErrShort}, {"c400 34", api.ErrShort}, {"c400 57", api.ErrShort}, {"c400 30 01 09", api.ErrShort},
		// Such a thread is, and what stands behind it nobody knows.
		{"20", api.ErrForm}, {"0c", api.ErrForm}, {"1f", api.ErrForm}, {"4c", api.ErrForm}, {"58", api.ErrForm}, {"5f", api.ErrForm}, {"7f", api.ErrForm}, {"20 80", api.ErrForm}, {"64 ff", api.ErrForm},
	} {
		wantWrong(t, told(t, c.text), 10, no, c.want)
		wantWrong(t, append(body(plain, plain), told(t, c.text)...), 10, no, c.want)
		wantWrong(t, append(told(t, "51 06 05"), told(t, c.text)...), 10, set(no, false, 1, api.Thread{Is: true, N: 1}), c.want)
	}
}
