package data

import (
	"testing"

	"hansom/api"
)

// mayModel reckons it otherwise than May: by the number of the last byte.
func mayModel(d api.Data) bool {
	if d.Seg <= 0 || d.Seg >= 32768 {
		return false
	}
	if len(d.Bytes) == 0 || len(d.Bytes) >= 1025 {
		return false
	}
	last := int64(d.Off) + int64(len(d.Bytes)) - 1
	return last>>16 == 0
}

func TestMayOfSegments(t *testing.T) {
	for n := 1; n <= 32767; n++ {
		wantMay(t, api.Data{Seg: n, Off: 5, Bytes: []byte{7}}, true)
	}
	for _, n := range noSegments {
		wantMay(t, api.Data{Seg: n, Off: 5, Bytes: []byte{7}}, false)
	}
}

func TestMayOfCounts(t *testing.T) {
	room := make([]byte, 70000)
	for many := range 1100 {
		wantMay(t, api.Data{Seg: 1, Bytes: room[:many]}, many >= 1 && many <= 1024)
	}
	for _, many := range []int{1025, 1026, 2047, 2048, 2049, 4000, 65535, 65536, 65537, 66560, 66561, 70000} {
		wantMay(t, api.Data{Seg: 1, Bytes: room[:many]}, false)
		wantMay(t, api.Data{Seg: 1, Off: 65535, Bytes: room[:many]}, false)
	}
	wantMay(t, api.Data{Seg: 1}, false)
	wantMay(t, api.Data{Seg: 1, Off: 65535}, false)
	wantMay(t, api.Data{Seg: 1, Bytes: []byte{}}, false)
	wantMay(t, api.Data{}, false)
}

func TestMayOfEnds(t *testing.T) {
	for _, c := range []struct {
		off, many int
		want      bool
	}{
		{65535, 1, true}, {65534, 1, true}, {65534, 2, true}, {65535, 2, false}, {65533, 2, true}, {65533, 3, true}, {65533, 4, false},
		{65280, 255, true}, {65280, 256, true}, {65280, 257, false},
		{64512, 1023, true}, {64512, 1024, true}, {64513, 1023, true}, {64513, 1024, false}, {64511, 1024, true}, {64511, 1025, false}, {64512, 1025, false},
		{65535, 1024, false}, {65535, 1023, false}, {0, 1024, true}, {0, 1, true}, {32767, 1024, true}, {32768, 1024, true}, {65535, 0, false},
	} {
		wantMay(t, api.Data{Seg: 1, Off: uint16(c.off), Bytes: make([]byte, c.many)}, c.want)
	}
}

// TestMayOfEachEnd has each count with the offsets by which its bytes end ahead of 2^16, there and behind it.
func TestMayOfEachEnd(t *testing.T) {
	room := make([]byte, 1024)
	for many := 1; many <= 1024; many++ {
		for end := 65530; end <= 65542 && end-many < 65536; end++ {
			wantMay(t, api.Data{Seg: 32767, Off: uint16(end - many), Bytes: room[:many]}, end <= 65536)
		}
	}
}

// TestMayOfAnOffsetAlone has each offset with as many bytes.
func TestMayOfAnOffsetAlone(t *testing.T) {
	room := make([]byte, 1024)
	for _, many := range []int{1, 2, 128, 1023, 1024} {
		for off := range 65536 {
			wantMay(t, api.Data{Seg: 1, Off: uint16(off), Bytes: room[:many]}, off <= 65536-many)
		}
	}
}

// TestMayOfACountAlone has each count at one offset.
func TestMayOfACountAlone(t *testing.T) {
	room := make([]byte, 1100)
	for _, off := range []int{0, 1, 64511, 64512, 64513, 65000, 65534, 65535} {
		for many := range 1100 {
			wantMay(t, api.Data{Seg: 1, Off: uint16(off), Bytes: room[:many]}, many >= 1 && many <= min(1024, 65536-off))
		}
	}
}

func TestMayAsksNoFixups(t *testing.T) {
	d := drawer(17)
	for range 3000 {
		one := d.data()
		want := May(one)
		for _, l := range [][]api.Fixup{nil, {}, {{}}, {{At: -1, Loc: 99, Frame: -5, Target: 77, N: -1}}, {{At: 1024, Loc: 3, N: 1}, {At: 5000, Self: true}}, d.fixups()} {
			one.Fixups = l
			wantMay(t, one, want)
		}
	}
	wantMay(t, api.Data{Seg: 1, Fixups: []api.Fixup{{Loc: 1, N: 1, Frame: 5}}}, false)
	wantMay(t, api.Data{Seg: 1, Bytes: []byte{1, 2}, Fixups: make([]api.Fixup, 5000)}, true)
}

// TestMayAsksNoByte has each value of a byte, at the beginning, at the end, and all over.
func TestMayAsksNoByte(t *testing.T) {
	for v := range 256 {
		for _, b := range [][]byte{{byte(v)}, {byte(v), 0}, {0, byte(v)}, {byte(v), byte(v), byte(v)}} {
			wantMay(t, api.Data{Seg: 3, Off: 9, Bytes: b}, true)
		}
	}
}

func TestMayBesideTheModel(t *testing.T) {
	d := drawer(23)
	for range 20000 {
		one := d.data()
		wantMay(t, one, mayModel(one))
	}
}
