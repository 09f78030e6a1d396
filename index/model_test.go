package index

import (
	"fmt"
	"testing"

	"hansom/api"
)

// model is a Source beside the one of the package: it counts whole numbers, and asks first whether all bytes are there.
type model struct {
	b  []int
	at int
	e  api.Errno
}

func (m *model) left() int {
	if m.e != api.OK {
		return 0
	}
	return len(m.b) - m.at
}

// whole tells whether so many bytes are there; else they are missed.
func (m *model) whole(many int) bool {
	if m.e == api.OK && (many < 0 || m.at+many > len(m.b)) {
		m.e = api.ErrShort
	}
	return m.e == api.OK
}

func (m *model) number(many int) int {
	if !m.whole(many) {
		return 0
	}
	n := 0
	for i := many; i > 0; i-- {
		n = n*256 + m.b[m.at+i-1]
	}
	m.at += many
	return n
}

func (m *model) take(many int) string {
	if !m.whole(many) {
		return ""
	}
	b := make([]byte, many)
	for i := range b {
		b[i] = byte(m.b[m.at+i])
	}
	m.at += many
	return string(b)
}

func (m *model) index() int {
	if !m.whole(1) {
		return 0
	}
	if m.b[m.at] < 128 {
		return m.number(1)
	}
	if !m.whole(2) {
		return 0
	}
	m.at += 2
	return (m.b[m.at-2]-128)*256 + m.b[m.at-1]
}

func (m *model) name() string {
	if !m.whole(1) || !m.whole(1+m.b[m.at]) {
		return ""
	}
	m.at++
	return m.take(m.b[m.at-1])
}

func (m *model) long() int {
	if !m.whole(1) {
		return 0
	}
	first := m.b[m.at]
	switch {
	case first <= 128:
		return m.number(1)
	case first != 0x81 && first != 0x84 && first != 0x88:
		m.e = api.ErrForm
		return 0
	}
	// 129, 132 and 136 are told by two, three and four.
	many := map[int]int{129: 2, 132: 3, 136: 4}[first]
	if !m.whole(1 + many) {
		return 0
	}
	m.at++
	return m.number(many)
}

func (m *model) end() api.Errno {
	if m.left() > 0 {
		m.e = api.ErrForm
	}
	return m.e
}

// step does what a number tells, to both, and answers what each came to.
func step(s *Source, m *model, kind, n int) (what, got, want string) {
	switch kind {
	case 0:
		return fmt.Sprintf("Take(%d)", n), fmt.Sprintf("%q", s.Take(n)), fmt.Sprintf("%q", m.take(n))
	case 1:
		return "Byte", fmt.Sprint(s.Byte()), fmt.Sprint(m.number(1))
	case 2:
		return "Word", fmt.Sprint(s.Word()), fmt.Sprint(m.number(2))
	case 3:
		return "Number", fmt.Sprint(s.Number()), fmt.Sprint(m.number(4))
	case 4, 5:
		return "Index", fmt.Sprint(s.Index()), fmt.Sprint(m.index())
	case 6, 7:
		return "Name", fmt.Sprintf("%q", s.Name()), fmt.Sprintf("%q", m.name())
	case 8, 9:
		return "Long", fmt.Sprint(s.Long()), fmt.Sprint(m.long())
	}
	return "End", fmt.Sprint(s.End()), fmt.Sprint(m.end())
}

// drawn is bytes among which small counts and marks are frequent.
func drawn(d *drawer, many int) []byte {
	b := d.bytes(many)
	for i := range b {
		switch d.byte() % 4 {
		case 0:
			b[i] %= 8
		case 1:
			b[i] = []byte{0x80, 0x81, 0x84, 0x88}[d.byte()%4]
		}
	}
	return b
}

func TestSourceBesideItsModel(t *testing.T) {
	d := drawer(201)
	for range 20000 {
		b := drawn(&d, int(d.byte())%40)
		s, m := From(b), &model{}
		for _, one := range b {
			m.b = append(m.b, int(one))
		}
		done := ""
		for range 1 + d.byte()%12 {
			kind := int(d.byte()) % 11
			if kind == 10 && d.byte()%4 != 0 {
				kind = 4
			}
			what, got, want := step(s, m, kind, int(d.byte())%8-1)
			done += " " + what
			if got != want || s.Err() != m.e || s.Left() != m.left() {
				t.Fatalf("% x:%s: %s, Err %d, Left %d; want %s, %d, %d", b, done, got, s.Err(), s.Left(), want, m.e, m.left())
			}
		}
	}
}
