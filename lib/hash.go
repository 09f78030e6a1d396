package lib

import (
	"math/bits"

	"hansom/api"
)

// alike is set in each byte that counts for a place: so small and great letters have the same.
const alike = 0x20

// Where is a name's place in a dictionary of so many blocks: the block and the bucket where it is sought first, and by how much each goes on.
type Where struct {
	Block  int
	Bucket int
	BlockD int
	BuckD  int
}

// Hash is a name's place: forth and back through its bytes, their number ahead of them, each with the bit 32.
func Hash(name string, blocks int) Where { return turn(name).among(blocks) }

// turned is what a name's bytes come to, whatever the number of blocks is.
type turned struct {
	block  uint16
	bucket uint16
	blockD uint16
	buckD  uint16
}

// turn goes through a name's bytes.
func turn(name string) turned {
	var t turned
	forth := byte(len(name))
	// One step fewer than there are bytes with their number: the last name's byte counts only back, and the number only forth.
	for i := range len(name) {
		back := name[len(name)-1-i]
		t.step(uint16(forth|alike), uint16(back|alike))
		forth = name[i]
	}
	return t
}

func (t *turned) step(forth, back uint16) {
	t.block = bits.RotateLeft16(t.block, 2) ^ forth
	t.bucket = bits.RotateLeft16(t.bucket, -2) ^ back
	t.blockD = bits.RotateLeft16(t.blockD, 2) ^ back
	t.buckD = bits.RotateLeft16(t.buckD, -2) ^ forth
}

// among is the place in so many blocks.
func (t turned) among(blocks int) Where {
	blocks = max(blocks, 1)
	return Where{
		Block:  int(t.block) % blocks,
		Bucket: int(t.bucket) % api.LibBuckets,
		BlockD: max(int(t.blockD)%blocks, 1),
		BuckD:  max(int(t.buckD)%api.LibBuckets, 1),
	}
}
