package lib

import (
	"testing"

	"hansom/api"
	"hansom/omf"
)

// turnedModel is a place before it is among blocks, reckoned by products and divisions.
func turnedModel(name string) Where {
	all := []int{len(name)}
	for i := range len(name) {
		all = append(all, int(name[i]))
	}
	for i := range all {
		if all[i]/32%2 == 0 {
			all[i] += 32
		}
	}
	left := func(n int) int { return n*4%65536 + n/16384 }
	right := func(n int) int { return n/4 + n%4*16384 }
	var w Where
	for i := 0; i < len(all)-1; i++ {
		f, g := all[i], all[len(all)-1-i]
		w.Block = left(w.Block) ^ f
		w.Bucket = right(w.Bucket) ^ g
		w.BlockD = left(w.BlockD) ^ g
		w.BuckD = right(w.BuckD) ^ f
	}
	return w
}

func whereModel(name string, blocks int) Where { return amongModel(turnedModel(name), blocks) }

// amongModel is the place in so many blocks.
func amongModel(w Where, blocks int) Where {
	w.Block %= blocks
	w.BlockD %= blocks
	w.Bucket %= 37
	w.BuckD %= 37
	if w.BlockD == 0 {
		w.BlockD = 1
	}
	if w.BuckD == 0 {
		w.BuckD = 1
	}
	return w
}

// shelf is a block of the model: which names stand in its buckets, in the order in which they came, and whether no more are put there.
type shelf struct {
	buckets [37]string
	taken   [37]bool
	order   []int
	full    bool
}

// length is how many bytes a name needs: a number, it, a word, and one more if that is odd.
func length(name string) int { return (len(name) + 4) / 2 * 2 }

// used is where the next name would stand.
func (s *shelf) used() int {
	at := 38
	for _, n := range s.order {
		at += length(s.buckets[n])
	}
	return at
}

// lay puts a name there, if it may.
func (s *shelf) lay(name string, w Where) bool {
	if s.full {
		return false
	}
	for k := range 37 {
		n := (w.Bucket + k*w.BuckD) % 37
		if s.taken[n] {
			continue
		}
		if s.used()+length(name) > 510 {
			s.full = true
			return false
		}
		s.buckets[n], s.taken[n] = name, true
		s.order = append(s.order, n)
		// A byte of ff tells that it is full, and that it is free from there on.
		s.full = s.used() == 510
		return true
	}
	return false
}

// bytes is a block as it is told.
func (s *shelf) bytes(pages map[string]int) []byte {
	b := make([]byte, 512)
	at := 38
	for _, n := range s.order {
		name := s.buckets[n]
		b[n] = byte(at / 2)
		b[at] = byte(len(name))
		copy(b[at+1:], name)
		b[at+1+len(name)] = byte(pages[name] % 256)
		b[at+2+len(name)] = byte(pages[name] / 256)
		at += length(name)
	}
	b[37] = byte(at / 2)
	if s.full {
		b[37] = 0xff
	}
	return b
}

// shelvesOf is names, of places that are told, on so many blocks: nil: they have no room.
func shelvesOf(names []string, places []Where, many int) []shelf {
	l := make([]shelf, many)
	for i, name := range names {
		w := amongModel(places[i], many)
		laid := false
		for k := 0; k < many && !laid; k++ {
			laid = l[(w.Block+k*w.BlockD)%many].lay(name, w)
		}
		if !laid {
			return nil
		}
	}
	return l
}

// prime tells whether a number is, by trying all below it.
func prime(n int) bool {
	divisors := 0
	for by := 1; by <= n; by++ {
		if n%by == 0 {
			divisors++
		}
	}
	return divisors == 2
}

// shelves is names on as few blocks as have room.
func shelves(names []string) []shelf {
	var places []Where
	for _, name := range names {
		places = append(places, turnedModel(name))
	}
	for many := 1; ; many++ {
		if many > 1 && !prime(many) {
			continue
		}
		if l := shelvesOf(names, places, many); l != nil {
			return l
		}
	}
}

// libraryModel is a library's bytes, of modules that may be.
func libraryModel(t testing.TB, l []api.Module, page int) []byte {
	t.Helper()
	var names []string
	pages := map[string]int{}
	var pagesBytes [][]byte
	at := 1
	for _, m := range l {
		b, e := omf.Write(m)
		if e != api.OK {
			t.Fatalf("a module's error: %d", e)
		}
		for _, p := range m.Pubs {
			names = append(names, p.Name)
			pages[p.Name] = at
		}
		many := (len(b) + page - 1) / page
		pagesBytes = append(pagesBytes, upTo(many*page, b))
		at += many
	}
	blocks := shelves(names)
	begins := (at + 1) * page
	for begins%512 != 0 {
		begins++
	}
	low, high := byte((page-3)%256), byte((page-3)/256)
	head := []byte{0xf0, low, high, byte(begins), byte(begins >> 8), byte(begins >> 16), byte(begins >> 24), byte(len(blocks)), byte(len(blocks) >> 8), 1}
	whole := joined(upTo(page, head), joined(pagesBytes...), []byte{0xf1, low, high})
	whole = upTo(begins, whole)
	for i := range blocks {
		whole = joined(whole, blocks[i].bytes(pages))
	}
	return whole
}

// findModel is what Find tells of a dictionary's bytes, whatever they are.
func findModel(d []byte, name string) int {
	many := len(d) / 512
	w := whereModel(name, many)
	for k := range many {
		from := (w.Block + k*w.BlockD) % many * 512
		b := d[from : from+512]
		for j := range 37 {
			at := 2 * int(b[(w.Bucket+j*w.BuckD)%37])
			if at == 0 && b[37] == 0xff {
				break
			}
			if at == 0 {
				return 0
			}
			end := at + 1 + int(b[at])
			if end+2 <= 512 && string(b[at+1:end]) == name {
				return int(b[end]) + 256*int(b[end+1])
			}
		}
	}
	return 0
}
