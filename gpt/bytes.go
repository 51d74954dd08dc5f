package gpt

import (
	"bytes"
	"slices"

	"barbican/api"
	"barbican/flash"
	"barbican/octets"
)

// fewestBlocks is how many a flash has at least, if a table can be read of it.
const fewestBlocks = 6

// Where in the protective record its parts stand.
const (
	recordKind  = 450
	recordFirst = 454 // all from here on is of one form
	recordCount = 458
	recordEnd   = 510
)

// unprotected is why a flash has no protective record that could be read.
func unprotected(f *flash.Flash) api.Errno {
	switch {
	case f == nil:
		return api.ErrArg
	case !f.On():
		return api.ErrFlashOff
	case f.Size() < fewestBlocks:
		return api.ErrGptMbr
	}
	b, e := f.Read(0)
	if e != api.OK {
		return e
	}
	want := record(f.Size())
	if b[recordKind] != want[recordKind] || !bytes.Equal(b[recordFirst:], want[recordFirst:]) {
		return api.ErrGptMbr
	}
	return api.OK
}

// record is the protective record of a flash of so many blocks.
func record(blocks int) []byte {
	b := make([]byte, api.BlockSize)
	b[recordKind] = 0xEE
	copy(b[recordFirst:], number(4, 1))
	copy(b[recordCount:], number(4, uint64(blocks-1)))
	copy(b[recordEnd:], []byte{0x55, 0xAA})
	return b
}

// lay adds those blocks of b, the first of which is the block at, that hold anything but noughts.
func lay(l []api.Block, at uint64, b []byte) []api.Block {
	for piece := range slices.Chunk(b, api.BlockSize) {
		if !blank(piece) {
			l = append(l, api.Block{N: int(at), Data: bytes.Clone(piece)})
		}
		at++
	}
	return l
}

// number is v in size bytes, in which it has room.
func number(size int, v uint64) []byte {
	b, _ := octets.Put(make([]byte, size), 0, size, false, v)
	return b
}

// numberAt is the number in the size bytes of b from a place on, which it has.
func numberAt(b []byte, at, size int) uint64 {
	v, _ := octets.Get(b, at, size, false)
	return v
}

// blank tells whether b is noughts alone.
func blank(b []byte) bool {
	return !slices.ContainsFunc(b, func(x byte) bool { return x != 0 })
}
