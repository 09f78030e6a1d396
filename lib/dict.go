package lib

import (
	"bytes"

	"hansom/api"
	"hansom/index"
)

const (
	// unit is of what places in a block are multiples, as a byte tells them.
	unit = 2
	// roomAt is where a block's byte stands that tells where it is free; namesAt, its first name.
	roomAt  = api.LibBuckets
	namesAt = roomAt + 1
	// full is what that byte is, if no name is put there any more.
	full = 0xff
	// mostEnd is the last place that a byte can tell: a name ends there, or ahead of it.
	mostEnd = 0xff * unit
)

// dictionary is blocks, one behind the other.
type dictionary []byte

// block is one of them.
type block []byte

// entry is a name's bytes as a block has them, and where it is sought.
type entry struct {
	bytes []byte
	place turned
}

// newEntry is the entry of a name that is given by the module of a page.
func newEntry(name string, page int) entry {
	b := append(index.Name(name), index.Two(uint16(page))...)
	return entry{padded(b, unit), turn(name)}
}

// padded is bytes with noughts behind them, up to a multiple.
func padded(b []byte, multiple int) []byte {
	for len(b)%multiple != 0 {
		b = append(b, 0)
	}
	return b
}

// fill is the dictionary of entries: of as few blocks as have room for all of them.
func fill(l []entry) dictionary {
	many := atLeast(l)
more:
	for ; ; many++ {
		if !mayCount(many) {
			continue
		}
		d := empty(many)
		for _, x := range l {
			if !d.put(x) {
				continue more
			}
		}
		return d
	}
}

// atLeast is how many blocks are needed even if none of their room is left: where there are many names, it would take long to try all that are fewer.
func atLeast(l []entry) int {
	all := 0
	for _, x := range l {
		all += len(x.bytes)
	}
	return max(1, parts(len(l), api.LibBuckets), parts(all, mostEnd-namesAt))
}

// parts is how many parts of so many there are, the last of which may be smaller.
func parts(n, each int) int { return (n + each - 1) / each }

// mayCount tells whether there may be so many blocks (1 and more): 1, or a prime number.
func mayCount(n int) bool {
	for by := 2; by*by <= n; by++ {
		if n%by == 0 {
			return false
		}
	}
	return true
}

// empty is a dictionary of so many blocks without names.
func empty(many int) dictionary {
	d := make(dictionary, many*api.LibBlock)
	for n := range many {
		d.block(n)[roomAt] = namesAt / unit
	}
	return d
}

func (d dictionary) blocks() int { return len(d) / api.LibBlock }

func (d dictionary) block(n int) block {
	return block(d[n*api.LibBlock : (n+1)*api.LibBlock])
}

// search asks one block after the other, from a place's own on, till one is it.
func (d dictionary) search(w Where, is func(block) bool) bool {
	n := w.Block
	for range d.blocks() {
		if is(d.block(n)) {
			return true
		}
		n = (n + w.BlockD) % d.blocks()
	}
	return false
}

// put puts an entry into the first block that has room for it: false: none has.
func (d dictionary) put(x entry) bool {
	w := x.place.among(d.blocks())
	return d.search(w, func(b block) bool { return b.put(w, x.bytes) })
}

// find is the page of a name; 0: it stands nowhere.
func (d dictionary) find(name string) int {
	w := Hash(name, d.blocks())
	told := index.Name(name)
	page := 0
	d.search(w, func(b block) bool {
		var ends bool
		page, ends = b.find(w, told)
		return ends
	})
	return page
}

// put puts a name's bytes into the first free bucket of a block: false: there is none, or no room.
func (b block) put(w Where, name []byte) bool {
	n, is := b.free(w)
	if !is {
		return false
	}
	// A full block tells the last place of all, where no name has room.
	at := int(b[roomAt]) * unit
	end := at + len(name)
	if end > mostEnd {
		b[roomAt] = full
		return false
	}
	copy(b[at:], name)
	b[n] = byte(at / unit)
	b[roomAt] = byte(end / unit)
	return true
}

// free is the first free bucket, from a place's own on, and whether there is one.
func (b block) free(w Where) (int, bool) {
	n := w.Bucket
	for range api.LibBuckets {
		if b[n] == 0 {
			return n, true
		}
		n = (n + w.BuckD) % api.LibBuckets
	}
	return 0, false
}

// find is the page of a name (its bytes, and how many ahead of them), and whether it is sought no farther: it is found, or would stand here.
func (b block) find(w Where, name []byte) (int, bool) {
	n := w.Bucket
	for range api.LibBuckets {
		at := int(b[n]) * unit
		if at == 0 {
			// A full block may have had no room for it any more.
			return 0, b[roomAt] != full
		}
		if page, is := b.page(at, name); is {
			return page, true
		}
		n = (n + w.BuckD) % api.LibBuckets
	}
	return 0, false
}

// page is the page of the name at a place, and whether it is that name.
func (b block) page(at int, name []byte) (int, bool) {
	rest, is := bytes.CutPrefix(b[at:], name)
	if !is {
		return 0, false
	}
	from := index.From(rest)
	page := int(from.Word())
	return page, from.Err() == api.OK
}
