package names

import (
	"bytes"
	"fmt"
	"slices"
	"strings"
	"testing"

	"hansom/api"
)

// lists are names, and their bytes one behind the other, by hand.
var lists = []struct {
	l    []string
	text string
}{
	{nil, ""}, {[]string{}, ""},
	{[]string{""}, "00"}, {[]string{"A"}, "01 41"}, {[]string{"CODE"}, "04 43 4f 44 45"}, {[]string{"\x00"}, "01 00"}, {[]string{"\xff"}, "01 ff"},
	{[]string{"", ""}, "00 00"}, {[]string{"", "A"}, "00 01 41"}, {[]string{"A", ""}, "01 41 00"}, {[]string{"A", "B"}, "01 41 01 42"}, {[]string{"B", "A"}, "01 42 01 41"},
	{[]string{"A", "A"}, "01 41 01 41"}, {[]string{"\x01A", "B"}, "02 01 41 01 42"}, {[]string{"AB", "C"}, "02 41 42 01 43"}, {[]string{"A", "BC"}, "01 41 02 42 43"},
	{[]string{"", "CODE", "DATA", "STACK"}, "00 04 43 4f 44 45 04 44 41 54 41 05 53 54 41 43 4b"},
	{[]string{"", "", "", "X", "", ""}, "00 00 00 01 58 00 00"},
	{[]string{"a", "A", "é"}, "01 61 01 41 02 c3 a9"},
}

// body is the bytes of names one behind the other, reckoned here.
func body(l []string) []byte {
	var b []byte
	for _, name := range l {
		b = append(b, counted(cut(name))...)
	}
	return b
}

// cuts is names, each as long as it may be.
func cuts(l []string) []string {
	var short []string
	for _, name := range l {
		short = append(short, cut(name))
	}
	return short
}

// drawn is so many names, of up to most bytes each.
func (d *drawer) drawn(many, most int) []string {
	l := make([]string, many)
	for i := range l {
		l[i] = d.text((int(d.byte())*256 + int(d.byte())) % (most + 1))
	}
	return l
}

func wantList(t *testing.T, what string, l []string) {
	t.Helper()
	r := List(l)
	wantRecord(t, what, r, api.RecLnames, body(l))
	wantNames(t, r.Body, cuts(l), api.OK)
}

func TestListByHand(t *testing.T) {
	for _, c := range lists {
		b := told(t, c.text)
		wantRecord(t, fmt.Sprintf("List(%q)", c.l), List(c.l), 0x96, b)
		wantNames(t, b, c.l, api.OK)
	}
	most := strings.Repeat("M", 255)
	full := append([]byte{0xff}, most...)
	wantRecord(t, "List of 255 and 1", List([]string{most, "A"}), 0x96, slices.Concat(full, []byte{1, 'A'}))
	wantRecord(t, "List of 256 and 1", List([]string{most + "N", "A"}), 0x96, slices.Concat(full, []byte{1, 'A'}))
	wantRecord(t, "List of 1 and 256", List([]string{"A", most + "N"}), 0x96, slices.Concat([]byte{1, 'A'}, full))
}

func TestListOfOne(t *testing.T) {
	d := drawer(211)
	for many := range 600 {
		wantList(t, fmt.Sprint("List of one of ", many), []string{d.text(many)})
	}
	for _, many := range lengths() {
		wantList(t, fmt.Sprint("List of one of ", many), []string{d.text(many)})
	}
}

func TestListOfMany(t *testing.T) {
	d := drawer(212)
	for many := range 300 {
		wantList(t, fmt.Sprint("List of many ", many), d.drawn(many, 9))
	}
	for range 60 {
		wantList(t, "List of drawn ones", d.drawn(int(d.byte())%40, 400))
	}
	// One of each length stands ahead of one of each other length.
	for _, a := range lengths()[:26] {
		for _, b := range lengths()[:26] {
			wantList(t, fmt.Sprint("List of ", a, b), []string{d.text(a), d.text(b)})
		}
	}
}

// TestListOfMore has more than there may be in a record: it is told whole all the same.
func TestListOfMore(t *testing.T) {
	for _, many := range []int{3999, 4000, 4001, 4002, 65535, 65536, 65537, 200000} {
		b := List(make([]string, many)).Body
		if len(b) != many || bytes.IndexFunc(b, func(r rune) bool { return r != 0 }) >= 0 {
			t.Fatal("List of none, so many", many, len(b))
		}
		l, e := Names(b)
		if len(l) != many || e != api.OK || slices.IndexFunc(l, func(s string) bool { return s != "" }) >= 0 {
			t.Fatal("Names of none, so many", many, len(l), e)
		}
	}
	d := drawer(213)
	wantList(t, "List of 2000", d.drawn(2000, 300))
}

func TestNamesOfNone(t *testing.T) {
	wantNames(t, nil, nil, api.OK)
	wantNames(t, []byte{}, nil, api.OK)
}

func TestNamesCutOff(t *testing.T) {
	d := drawer(214)
	all := [][]string{{"A"}, {"AB", "C"}, {"", "CODE", "DATA", "STACK"}, {"\x00\x00", "\x01", ""}, {d.text(255)}, {d.text(255), d.text(254), ""}}
	for range 40 {
		all = append(all, d.drawn(1+int(d.byte())%8, 60))
	}
	for _, l := range all {
		b := body(l)
		for have := range b {
			whole := wholeNames(l, have)
			if len(body(l[:whole])) == have {
				wantNames(t, b[:have], l[:whole], api.OK)
				continue
			}
			wantNames(t, b[:have], nil, api.ErrShort)
		}
		wantNames(t, b, l, api.OK)
	}
}

// wholeNames is how many of names have their place in so many bytes.
func wholeNames(l []string, have int) int {
	n := 0
	for n < len(l) && len(body(l[:n+1])) <= have {
		n++
	}
	return n
}

func TestNamesMissing(t *testing.T) {
	d := drawer(215)
	for many := 1; many < 256; many++ {
		b := counted(d.text(many))
		for have := 1; have < len(b); have++ {
			wantNames(t, b[:have], nil, api.ErrShort)
			wantNames(t, append([]byte{0, 1, 'A'}, b[:have]...), nil, api.ErrShort)
		}
	}
}

// TestNamesByModel asks all short bytes whose letters are few.
func TestNamesByModel(t *testing.T) {
	everyShort(6, func(b []byte) {
		var l []string
		at := 0
		for at < len(b) && at+int(b[at]) < len(b) {
			next := at + 1 + int(b[at])
			l = append(l, string(b[at+1:next]))
			at = next
		}
		if at < len(b) {
			wantNames(t, b, nil, api.ErrShort)
			return
		}
		wantNames(t, b, l, api.OK)
		wantRecord(t, "List", List(l), api.RecLnames, b)
	})
}

// everyShort tells all bytes of up to so many, each of 0 to 6 or 255.
func everyShort(most int, tell func([]byte)) {
	var more func(b []byte)
	more = func(b []byte) {
		tell(b)
		if len(b) == most {
			return
		}
		for _, next := range []byte{0, 1, 2, 3, 4, 5, 6, 255} {
			more(append(b[:len(b):len(b)], next))
		}
	}
	more(nil)
}
