package gpt

import (
	"slices"

	"barbican/api"
	"barbican/octets"
)

const (
	frontHeader  = 1  // the block of the header at the front
	frontTable   = 2  // the first block that a table at the front may have
	headerSize   = 92 // the bytes that a header's sum is of
	sumAt        = 16 // where that sum stands
	sumEnd       = 20
	headerOpens  = "EFI PART" + "\x00\x00\x01\x00" + "\x5c\x00\x00\x00" // how each one begins
	blockEntries = api.BlockSize / entrySize
	tableBlocks  = api.MaxEntries / blockEntries // of a table that has all the entries there can be
)

// header is what a header says.
type header struct {
	at, other   uint64 // its block, and that of the other header
	first, last uint64 // the blocks that partitions may have
	disk        api.GUID
	table       uint64 // the block at which its table begins
	count, size uint64 // how many entries that has, how many bytes each has
	tableSum    uint32
}

// headerOf reads a header.
func headerOf(b []byte) (header, api.Errno) {
	if string(b[:sumAt]) != headerOpens || !blank(b[sumEnd:24]) || !blank(b[headerSize:]) {
		return header{}, api.ErrGptHeader
	}
	if numberAt(b, sumAt, 4) != uint64(headerSum(b)) {
		return header{}, api.ErrGptSum
	}
	return header{
		at:       numberAt(b, 24, 8),
		other:    numberAt(b, 32, 8),
		first:    numberAt(b, 40, 8),
		last:     numberAt(b, 48, 8),
		disk:     api.GUID(b[56:72]),
		table:    numberAt(b, 72, 8),
		count:    numberAt(b, 80, 4),
		size:     numberAt(b, 84, 4),
		tableSum: uint32(numberAt(b, 88, 4)),
	}, api.OK
}

// fullHeader is the header at the front of a flash of so many blocks, whose table has all the entries there can be.
func fullHeader(blocks uint64, disk api.GUID) header {
	first := uint64(frontTable + tableBlocks)
	return header{
		at:    frontHeader,
		other: blocks - 1,
		first: first,
		last:  blocks - first,
		disk:  disk,
		table: frontTable,
		count: api.MaxEntries,
		size:  entrySize,
	}
}

// mirrored is the header at the back that says what h does at the front.
func (h header) mirrored() header {
	h.at, h.other = h.other, h.at
	h.table = h.last + 1
	return h
}

// bytes is the header as its block.
func (h header) bytes() []byte {
	b := slices.Concat(
		[]byte(headerOpens), number(4, 0), number(4, 0),
		number(8, h.at), number(8, h.other), number(8, h.first), number(8, h.last),
		h.disk[:],
		number(8, h.table), number(4, h.count), number(4, h.size), number(4, uint64(h.tableSum)),
		make([]byte, api.BlockSize-headerSize),
	)
	copy(b[sumAt:], number(4, uint64(headerSum(b))))
	return b
}

// headerSum is the sum of a header, whatever stands in the sum's own place.
func headerSum(b []byte) uint32 {
	sum := octets.CRC(0, b[:sumAt])
	sum = octets.CRC(sum, make([]byte, sumEnd-sumAt))
	return octets.CRC(sum, b[sumEnd:headerSize])
}

// isAt tells whether it is the header of that block, and has entries as they must be.
func (h header) isAt(at, other uint64) bool {
	return h.at == at && h.other == other && h.size == entrySize && h.count >= 1 && h.count <= api.MaxEntries
}

// liesIn tells whether what it names lies in a flash of so many blocks: its table between the headers, apart from the blocks for partitions.
func (h header) liesIn(blocks uint64) bool {
	if h.first < frontTable || h.first > h.last || h.last > blocks-2 {
		return false
	}
	begin, end := uint64(frontTable), h.first
	if h.at != frontHeader {
		begin, end = h.last+1, h.at
	}
	return h.table >= begin && octets.Fits(h.table, h.tableBlocks(), end)
}

// tableBlocks is how many blocks its table takes.
func (h header) tableBlocks() uint64 { return (h.count + blockEntries - 1) / blockEntries }
