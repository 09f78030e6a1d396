package pubs

import (
	"slices"
	"strings"
	"testing"

	"hansom/api"
)

// takens are names that are taken, and their records' bytes, by hand.
var takens = []struct {
	l    []string
	text string
}{
	{nil, ""}, {[]string{}, ""}, {[]string{""}, "00 00"}, {[]string{"A"}, "01 41 00"}, {[]string{"START"}, "05 5354415254 00"}, {[]string{"\x00"}, "01 00 00"}, {[]string{"\xff\x80"}, "02 ff80 00"},
	{[]string{"A", "BC"}, "01 41 00 02 4243 00"}, {[]string{"BC", "A"}, "02 4243 00 01 41 00"}, {[]string{"A", "A"}, "01 41 00 01 41 00"}, {[]string{"", "A", ""}, "00 00 01 41 00 00 00"},
	{[]string{"A", "", "", "B"}, "01 41 00 00 00 00 00 01 42 00"}, {[]string{"a", "A", "b", "B"}, "01 61 00 01 41 00 01 62 00 01 42 00"},
}

// takenReckoned is what a record of taken names has, reckoned here.
func takenReckoned(l []string) []byte {
	var b []byte
	for _, s := range l {
		b = append(b, counted(s)...)
		b = append(b, 0)
	}
	return b
}

// taken is what names come to when they are read: given by another one, 255 bytes of each.
func taken(l []string) []api.Ext {
	var all []api.Ext
	for _, s := range l {
		all = append(all, api.Ext{Name: s[:min(len(s), 255)]})
	}
	return all
}

func (d *drawer) names(many int) []string {
	l := make([]string, many)
	for i := range l {
		l[i] = d.name()
	}
	return l
}

func TestTakenByHand(t *testing.T) {
	for _, c := range takens {
		b := told(t, c.text)
		wantExternals(t, c.l, b)
		wantTaken(t, b, taken(c.l), api.OK)
	}
}

func TestTakenNames(t *testing.T) {
	d := drawer(311)
	for many := range 600 {
		l := []string{string(d.bytes(many)), "B"}
		b := takenReckoned(l)
		wantExternals(t, l, b)
		wantTaken(t, b, taken(l), api.OK)
	}
	for _, many := range []int{1000, 4000, 65535, 65536, 70000} {
		name := strings.Repeat("N", many)
		wantExternals(t, []string{name}, slices.Concat([]byte{255}, []byte(name[:255]), []byte{0}))
	}
	for letter := range 256 {
		s := string([]byte{byte(letter)})
		wantExternals(t, []string{s}, []byte{1, byte(letter), 0})
		wantTaken(t, []byte{1, byte(letter), 0}, []api.Ext{{Name: s}}, api.OK)
	}
}

func TestTakenOfMany(t *testing.T) {
	d := drawer(312)
	for many := range 300 {
		l := d.names(many)
		b := takenReckoned(l)
		wantExternals(t, l, b)
		wantTaken(t, b, taken(l), api.OK)
	}
	for _, many := range []int{1000, 4000, 32768, 65537, 100000} {
		l := d.names(many)
		b := takenReckoned(l)
		wantExternals(t, l, b)
		wantTaken(t, b, taken(l), api.OK)
	}
}

func TestTakenIndexBehindName(t *testing.T) {
	for _, n := range anyIndices() {
		wantTaken(t, append([]byte{1, 'A'}, n...), []api.Ext{{Name: "A"}}, api.OK)
		wantTaken(t, slices.Concat([]byte{1, 'A'}, n, []byte{2, 'B', 'C'}, n, []byte{0}, n), []api.Ext{{Name: "A"}, {Name: "BC"}, {}}, api.OK)
	}
}

func TestTakenMissing(t *testing.T) {
	for _, text := range []string{"00", "01", "ff", "80", "01 41", "02 41", "02 4142", "01 41 80", "01 41 ff", "00 80", "01 41 00 00", "01 41 00 01", "01 41 00 01 42", "01 41 00 01 42 80", "05 41424344 00"} {
		wantTaken(t, told(t, text), nil, api.ErrShort)
	}
	d := drawer(313)
	for range 300 {
		l := d.names(d.below(20))
		whole := map[int]int{0: 0}
		for i := range l {
			whole[len(takenReckoned(l[:i+1]))] = i + 1
		}
		b := takenReckoned(l)
		for have := range len(b) + 1 {
			if many, is := whole[have]; is {
				wantTaken(t, b[:have], taken(l[:many]), api.OK)
			} else {
				wantTaken(t, b[:have], nil, api.ErrShort)
			}
		}
	}
}

// modelTaken is what bytes tell, by where each part stands in them.
func modelTaken(b []byte) ([]api.Ext, api.Errno) {
	c := cursor{b: b}
	var l []api.Ext
	for !c.over() {
		l = append(l, api.Ext{Name: c.text()})
		c.index()
	}
	if c.e != api.OK {
		return nil, c.e
	}
	return l, api.OK
}

func TestTakenByModel(t *testing.T) {
	letters := []byte{0, 1, 2, 0x41, 0x80, 0xff}
	var all func(b []byte)
	all = func(b []byte) {
		l, e := modelTaken(b)
		wantTaken(t, b, l, e)
		if len(b) < 7 {
			for _, one := range letters {
				all(append(b, one))
			}
		}
	}
	all(nil)
	d := drawer(314)
	right := 0
	for range 200000 {
		b := d.bytes(d.below(20))
		for i := range b {
			if d.below(2) == 0 {
				b[i] &= 3
			}
		}
		l, e := modelTaken(b)
		wantTaken(t, b, l, e)
		if e == api.OK && len(l) > 0 {
			right++
		}
	}
	if right < 1000 {
		t.Error("only", right, "of these were right")
	}
}
