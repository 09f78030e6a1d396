package index

import (
	"hansom/api"
	"hansom/bits"
)

// Source goes through a record's bytes.
type Source struct {
	rest []byte
	err  api.Errno
}

// From is the source of bytes.
func From(b []byte) *Source { return &Source{rest: append([]byte(nil), b...)} }

// Err is what was wrong first; Left, how many bytes are left.
func (s *Source) Err() api.Errno {
	if s == nil {
		return api.ErrInput
	}
	return s.err
}

func (s *Source) Left() int {
	if s == nil {
		return 0
	}
	return len(s.rest)
}

// Wrong notes that something is wrong: nothing is left then.
func (s *Source) Wrong(e api.Errno) {
	if s.Err() != api.OK || e == api.OK {
		return
	}
	s.rest, s.err = nil, e
}

// Take is so many bytes: ErrShort: fewer are left (or it is below 0).
func (s *Source) Take(n int) []byte {
	if s == nil {
		return nil
	}
	if n < 0 || n > len(s.rest) {
		s.Wrong(api.ErrShort)
		return nil
	}
	// Without its room cut, what a caller puts behind it would stand in the bytes that are still to come.
	taken := s.rest[:n:n]
	s.rest = s.rest[n:]
	return taken
}

// Byte, Word and Number are the next one, two and four bytes.
func (s *Source) Byte() byte { return byte(s.number(1)) }

func (s *Source) Word() uint16 { return uint16(s.number(2)) }

func (s *Source) Number() uint32 { return s.number(4) }

// Index is the next index; Name, the next name.
func (s *Source) Index() int {
	first := s.Byte()
	if first < twoBytes {
		return int(first)
	}
	second := s.Byte()
	// The first byte alone is no index.
	if s.Err() != api.OK {
		return 0
	}
	return int(bits.Word(second, first&^twoBytes))
}

func (s *Source) Name() string { return string(s.Take(int(s.Byte()))) }

// Long is the next length: ErrForm: there is no such mark.
func (s *Source) Long() uint32 {
	first := s.Byte()
	if first <= mostShort {
		return uint32(first)
	}
	many, is := marks()[first]
	if !is {
		s.Wrong(api.ErrForm)
		return 0
	}
	return s.number(many)
}

// End ends it: ErrForm: bytes are left.
func (s *Source) End() api.Errno {
	if s.Left() > 0 {
		s.Wrong(api.ErrForm)
	}
	return s.Err()
}

// number is what so many of the next bytes come to, the lowest one first; 0, if some are missing.
func (s *Source) number(many int) uint32 {
	var n uint32
	for i, b := range s.Take(many) {
		n |= uint32(b) << (8 * i)
	}
	return n
}
