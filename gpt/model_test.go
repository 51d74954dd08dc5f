package gpt_test

import (
	"bytes"
	"encoding/binary"
	"hash/crc32"
	"math"
	"math/big"
	"slices"
	"testing"

	"barbican/api"
	"barbican/flash"
	"barbican/gpt"
)

// The chapter's words another way: a disk is all its bytes in one list, numbers are of any size, each block knows who has it. What the package answers is held against these.
type disk []byte

var order = binary.LittleEndian

func (d disk) size() int { return len(d) / 512 }

func (d disk) block(n int) []byte { return d[512*n : 512*n+512] }

func (d disk) clone() disk { return bytes.Clone(d) }

// back is the block of the header at the back.
func (d disk) back() int { return d.size() - 1 }

// flash is one that holds the disk.
func (d disk) flash(t *testing.T) *flash.Flash {
	t.Helper()
	var l []api.Block
	for n := range d.size() {
		l = append(l, api.Block{N: n, Data: d.block(n)})
	}
	f, e := flash.New(d.size(), l)
	if e != api.OK {
		t.Fatal(e)
	}
	return f
}

// blocks are those that hold anything but noughts.
func (d disk) blocks() []api.Block {
	var l []api.Block
	for n := range d.size() {
		if b := d.block(n); !isNoughts(b) {
			l = append(l, api.Block{N: n, Data: b})
		}
	}
	return l
}

func isNoughts(b []byte) bool { return len(bytes.Trim(b, "\x00")) == 0 }

// read is what G1 asks for.
func (d disk) read() (gpt.Table, api.Errno) {
	if d.size() < 6 {
		return gpt.Table{}, api.ErrGptMbr
	}
	b := d.block(0)
	if b[510] != 0x55 || b[511] != 0xAA || b[450] != 0xEE || order.Uint32(b[454:]) != 1 || int(order.Uint32(b[458:])) != d.size()-1 || !isNoughts(b[462:510]) {
		return gpt.Table{}, api.ErrGptMbr
	}
	t, fault := d.header(1, d.back())
	if fault != api.OK {
		var e api.Errno
		if t, e = d.header(d.back(), 1); e != api.OK {
			return gpt.Table{}, fault
		}
		t.Backup = true
	}
	return t, api.OK
}

// header is what the header at a block leads to, or its fault.
func (d disk) header(at, other int) (gpt.Table, api.Errno) {
	b := d.block(at)
	if string(b[:8]) != "EFI PART" || order.Uint32(b[8:]) != 0x10000 || order.Uint32(b[12:]) != 92 || !isNoughts(b[20:24]) || !isNoughts(b[92:]) {
		return gpt.Table{}, api.ErrGptHeader
	}
	if order.Uint32(b[16:]) != headerSum(b) {
		return gpt.Table{}, api.ErrGptSum
	}
	first, last, begin, count := order.Uint64(b[40:]), order.Uint64(b[48:]), order.Uint64(b[72:]), order.Uint32(b[80:])
	if order.Uint64(b[24:]) != uint64(at) || order.Uint64(b[32:]) != uint64(other) || order.Uint32(b[84:]) != 128 || count == 0 || count > 128 {
		return gpt.Table{}, api.ErrGptPlace
	}
	if first < 2 || first > last || last > uint64(d.size()-2) {
		return gpt.Table{}, api.ErrGptPlace
	}
	low, high := uint64(2), first-1
	if at != 1 {
		low, high = last+1, uint64(at-1)
	}
	for i := range int64(math.Ceil(float64(count) / 4)) {
		n := new(big.Int).Add(whole(begin), big.NewInt(i))
		if n.Cmp(whole(low)) < 0 || n.Cmp(whole(high)) > 0 {
			return gpt.Table{}, api.ErrGptPlace
		}
	}
	table := d[512*begin:][:128*count]
	if crc32.ChecksumIEEE(table) != order.Uint32(b[88:]) {
		return gpt.Table{}, api.ErrGptSum
	}
	l, e := entries(table, first, last)
	if e != api.OK {
		return gpt.Table{}, e
	}
	return gpt.Table{Disk: api.GUID(b[56:72]), Parts: l}, api.OK
}

func whole(v uint64) *big.Int { return new(big.Int).SetUint64(v) }

// headerSum is a header's sum, over a copy that has noughts in the sum's place.
func headerSum(b []byte) uint32 {
	c := bytes.Clone(b[:92])
	clear(c[16:20])
	return crc32.ChecksumIEEE(c)
}

// entries are those of a table that are used, or the first one's fault.
func entries(table []byte, first, last uint64) ([]api.Part, api.Errno) {
	var l []api.Part
	for ; len(table) > 0; table = table[128:] {
		var p api.Part
		if _, err := binary.Decode(table[:128], order, &p); err != nil {
			panic(err)
		}
		if isNoughts(p.Type[:]) {
			if !isNoughts(table[:128]) {
				return nil, api.ErrGptEntry
			}
			continue
		}
		if e := joins(l, p, first, last); e != api.OK {
			return nil, e
		}
		l = append(l, p)
	}
	return l, api.OK
}

// joins is why a partition may not stand behind those of l; they have few blocks.
func joins(l []api.Part, p api.Part, first, last uint64) api.Errno {
	if isNoughts(p.Type[:]) || isNoughts(p.ID[:]) {
		return api.ErrGptEntry
	}
	has := map[uint64]bool{}
	for _, q := range l {
		if bytes.Equal(q.ID[:], p.ID[:]) {
			return api.ErrGptEntry
		}
		for n := q.First; n <= q.Last; n++ {
			has[n] = true
		}
	}
	if p.First > p.Last || p.First < first || p.Last > last {
		return api.ErrGptEntry
	}
	for n := p.First; n <= p.Last; n++ {
		if has[n] {
			return api.ErrGptOverlap
		}
	}
	return api.OK
}

// entry is a partition's 128 bytes.
func entry(p api.Part) []byte {
	b, err := binary.Append(nil, order, p)
	if err != nil || len(b) != 128 {
		panic(len(b))
	}
	return b
}

// head is what a header says but for its sums.
type head struct {
	At, Other, First, Last uint64
	Disk                   api.GUID
	Table                  uint64
	Count, Size            uint32
}

// empty is a disk of noughts with a protective record.
func empty(blocks int) disk {
	d := make(disk, 512*blocks)
	copy(d[510:], "\x55\xaa")
	d[450] = 0xee
	order.PutUint32(d[454:], 1)
	order.PutUint32(d[458:], uint32(blocks-1))
	return d
}

// put writes a header at a block, with its sum; the table's is that of table.
func (d disk) put(at int, h head, table []byte) {
	b := append([]byte("EFI PART"), 0, 0, 1, 0, 92, 0, 0, 0, 0, 0, 0, 0, 0, 0, 0, 0)
	b, err := binary.Append(b, order, h)
	if err != nil || len(b) != 88 {
		panic(len(b))
	}
	b = order.AppendUint32(b, crc32.ChecksumIEEE(table))
	clear(d.block(at))
	copy(d.block(at), b)
	d.mend(at)
}

// mend makes a header's sum what it should be.
func (d disk) mend(at int) { order.PutUint32(d.block(at)[16:], headerSum(d.block(at))) }

// mendTable makes the table's sum what it should be, too.
func (d disk) mendTable(at int) {
	b := d.block(at)
	begin, count := order.Uint64(b[72:]), order.Uint32(b[80:])
	order.PutUint32(b[88:], crc32.ChecksumIEEE(d[512*begin:][:128*count]))
	d.mend(at)
}

// tableOf is some partitions as a table with so many entries.
func tableOf(count int, l ...api.Part) []byte {
	b := make([]byte, 128*count)
	for i, p := range l {
		copy(b[128*i:], entry(p))
	}
	return b
}

// tight is a disk whose table has so many entries and lies right beside the headers, and the blocks for partitions right beside it.
func tight(blocks, count int, id api.GUID, l ...api.Part) disk {
	d := empty(blocks)
	table := tableOf(count, l...)
	room := (count + 3) / 4
	h := head{1, uint64(d.back()), uint64(2 + room), uint64(d.back() - room - 1), id, 2, uint32(count), 128}
	copy(d[512*2:], table)
	d.put(1, h, table)
	copy(d[512*(d.back()-room):], table)
	h.At, h.Other, h.Table = h.Other, h.At, uint64(d.back()-room)
	d.put(d.back(), h, table)
	return d
}

// laid is the disk that Blocks asks for.
func laid(blocks int, t gpt.Table) disk { return tight(blocks, 128, t.Disk, t.Parts...) }

// part is a partition with a type and a name of its own of one byte.
func part(id byte, first, last uint64) api.Part {
	return api.Part{Type: api.GUID{0: 7}, ID: api.GUID{15: id}, First: first, Last: last}
}

func sameTable(a, b gpt.Table) bool {
	return a.Disk == b.Disk && a.Backup == b.Backup && slices.Equal(a.Parts, b.Parts)
}

// readIs tells what the answer was, if Read and the words tell the same.
func readIs(t *testing.T, d disk) (gpt.Table, api.Errno) {
	t.Helper()
	want, why := d.read()
	got, e := gpt.Read(d.flash(t))
	if e != why || !sameTable(got, want) {
		t.Fatalf("Read: %+v, %d, not %+v, %d", got, e, want, why)
	}
	return want, why
}

// blocksAre tells of Blocks of a small flash.
func blocksAre(t *testing.T, blocks int, x gpt.Table) api.Errno {
	t.Helper()
	var want []api.Block
	why := wants(blocks, x)
	if why == api.OK {
		want = laid(blocks, x).blocks()
	}
	l, e := gpt.Blocks(blocks, x)
	if e != why || !sameBlocks(l, want) {
		t.Fatalf("Blocks(%d, %+v): %d blocks, %d, not %d, %d", blocks, x, len(l), e, len(want), why)
	}
	return why
}

// wants is the error that G3 asks for.
func wants(blocks int, x gpt.Table) api.Errno {
	if blocks < 68 || blocks > 1<<20 {
		return api.ErrArg
	}
	if len(x.Parts) > 128 {
		return api.ErrGptEntry
	}
	for i, p := range x.Parts {
		if e := joins(x.Parts[:i], p, 34, uint64(blocks-34)); e != api.OK {
			return e
		}
	}
	return api.OK
}

func sameBlocks(a, b []api.Block) bool {
	return slices.EqualFunc(a, b, func(x, y api.Block) bool { return x.N == y.N && bytes.Equal(x.Data, y.Data) })
}

// source is numbers that come anew each time from the same beginning.
type source uint64

func (s *source) next() uint64 {
	*s += 0x9e3779b97f4a7c15
	z := uint64(*s)
	z = (z ^ z>>30) * 0xbf58476d1ce4e5b9
	z = (z ^ z>>27) * 0x94d049bb133111eb
	return z ^ z>>31
}

func (s *source) below(n int) int { return int(s.next() % uint64(n)) }

func (s *source) guid() api.GUID {
	var g api.GUID
	order.PutUint64(g[:], s.next())
	order.PutUint64(g[8:], s.next())
	return g
}

// parts are at most so many partitions, apart from one another, among the blocks from first to last, in any order.
func (s *source) parts(most int, first, last uint64) []api.Part {
	var l []api.Part
	for at := first; at <= last && len(l) < most; {
		p := api.Part{Type: s.guid(), ID: s.guid(), First: at, Last: min(at+uint64(s.below(3)), last), Attrs: s.next()}
		for i := range p.Name {
			p.Name[i] = uint16(s.next())
		}
		l = append(l, p)
		at = p.Last + 1 + uint64(s.below(2))
	}
	for i := range l {
		j := s.below(i + 1)
		l[i], l[j] = l[j], l[i]
	}
	return l
}

// oddNumbers are at the edges of a disk of so many blocks, and of numbers.
func oddNumbers(blocks int) []uint64 {
	l := []uint64{1<<31 - 1, 1 << 31, 1<<32 - 1, 1 << 32, 1<<32 + 2, 1<<55 + 2, 1<<62 - 1, 1<<63 - 1, 1 << 63, 1<<63 + 2, math.MaxUint64 - 32, math.MaxUint64 - 1, math.MaxUint64}
	for n := range uint64(blocks + 3) {
		l = append(l, n)
	}
	return l
}
