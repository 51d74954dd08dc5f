package gpt_test

import (
	"math"
	"testing"

	"barbican/api"
)

// P17.1: the faults of entries.

// holding is a disk whose table has those bytes for its entries, and the sums it should have, at the front alone or at the back alone.
func holding(front bool, table []byte) disk {
	d := empty(16)
	n, other, begin := 1, d.back(), 2
	if !front {
		n, other, begin = other, n, 13
	}
	d.put(n, head{uint64(n), uint64(other), 4, 12, api.GUID{5}, uint64(begin), uint32(len(table) / 128), 128}, table)
	copy(d[512*begin:], table)
	return d
}

func holdingIs(t *testing.T, want api.Errno, l ...api.Part) {
	t.Helper()
	for _, front := range sides {
		x, e := readIs(t, holding(front, tableOf(8, l...)))
		if e != told(front, want) || e == api.OK && x.Backup == front {
			t.Fatalf("%v, %+v: %+v, %d, not %d", front, l, x, e, want)
		}
	}
}

// Each first and last block, at the edges of the usable ones and of numbers.
func TestEntryBlocks(t *testing.T) {
	good := 0
	for _, first := range oddNumbers(16) {
		for _, last := range oddNumbers(16) {
			want := api.ErrGptEntry
			if first >= 4 && last <= 12 && first <= last {
				want = api.OK
				good++
			}
			holdingIs(t, want, part(1, first, last))
		}
	}
	if good != 45 {
		t.Fatal(good)
	}
}

// Each two partitions: those that touch are apart, those that share a block aren't.
func TestEntryOverlap(t *testing.T) {
	for a := uint64(4); a <= 12; a++ {
		for b := a; b <= 12; b++ {
			for c := uint64(4); c <= 12; c++ {
				for d := c; d <= 12; d++ {
					want := api.OK
					if a <= d && c <= b {
						want = api.ErrGptOverlap
					}
					_, e := readIs(t, holding(true, tableOf(8, part(1, a, b), part(2, c, d))))
					if e != want {
						t.Fatal(a, b, c, d, e)
					}
				}
			}
		}
	}
	// With any of those ahead, not the last one alone.
	holdingIs(t, api.ErrGptOverlap, part(1, 6, 7), part(2, 9, 9), part(3, 11, 12), part(4, 7, 8))
	holdingIs(t, api.ErrGptOverlap, part(1, 11, 12), part(2, 9, 9), part(3, 6, 7), part(4, 10, 11))
	holdingIs(t, api.OK, part(1, 11, 12), part(2, 9, 9), part(3, 6, 7), part(4, 10, 10), part(5, 8, 8), part(6, 4, 5))
}

// Names of their own, and types.
func TestEntryNames(t *testing.T) {
	holdingIs(t, api.ErrGptEntry, part(0, 5, 5))
	holdingIs(t, api.OK, part(1, 5, 5), part(2, 6, 6), part(3, 7, 7))
	holdingIs(t, api.ErrGptEntry, part(1, 5, 5), part(2, 6, 6), part(1, 7, 7))
	holdingIs(t, api.ErrGptEntry, part(1, 5, 5), part(2, 6, 6), part(2, 7, 7))
	other := part(1, 7, 7)
	other.Type = api.GUID{3}
	holdingIs(t, api.ErrGptEntry, part(1, 5, 5), other)
	// A type may come twice, and may be a partition's own name, or another's.
	same := part(2, 7, 7)
	same.Type, same.ID = part(1, 5, 5).ID, part(1, 5, 5).Type
	holdingIs(t, api.OK, part(1, 5, 5), same)
	same.ID = same.Type
	holdingIs(t, api.OK, same)
	// Names that differ in one bit are two.
	for at := range 16 {
		for bit := range 8 {
			p, q := part(1, 5, 5), part(1, 6, 6)
			q.ID[at] ^= 1 << bit
			if q.ID == (api.GUID{}) {
				continue
			}
			holdingIs(t, api.OK, p, q)
		}
	}
	// One byte of a type or a name is enough.
	for at := range 16 {
		p := api.Part{First: 5, Last: 5}
		p.Type[at], p.ID[15-at] = 1, 0x80
		holdingIs(t, api.OK, p)
	}
}

// An entry that is unused is noughts alone.
func TestEntryUnused(t *testing.T) {
	for at := range 128 {
		table := tableOf(8, part(1, 5, 5), api.Part{}, part(2, 6, 6))
		table[128+at] = 0x20
		want := api.ErrGptEntry
		_, e := readIs(t, holding(true, table))
		if e != want {
			t.Fatal(at, e)
		}
		if _, e := readIs(t, holding(false, table)); e != api.ErrGptHeader {
			t.Fatal(at, e)
		}
	}
	full := part(3, 7, 7)
	full.Type = api.GUID{}
	holdingIs(t, api.ErrGptEntry, full)
	holdingIs(t, api.ErrGptEntry, part(1, 5, 5), api.Part{}, full)
}

// Used ones stand anywhere in the table, and are told in its order.
func TestEntryOrder(t *testing.T) {
	holdingIs(t, api.OK)
	l := []api.Part{part(9, 12, 12), {}, part(3, 4, 4), {}, {}, part(5, 8, 9), {}, part(1, 6, 7)}
	for _, front := range sides {
		x, e := readIs(t, holding(front, tableOf(8, l...)))
		if e != api.OK || x.Disk != (api.GUID{5}) || len(x.Parts) != 4 {
			t.Fatal(x, e)
		}
		for i, n := range []int{0, 2, 5, 7} {
			if x.Parts[i] != l[n] {
				t.Fatal(x)
			}
		}
	}
}

// All that an entry says is told.
func TestEntryFields(t *testing.T) {
	p := part(1, 5, 6)
	for i := range p.Type {
		p.Type[i], p.ID[i] = byte(0x10+i), byte(0xf0-i)
	}
	for i := range p.Name {
		p.Name[i] = uint16(0xff00 - 0x101*i)
	}
	for _, attrs := range []uint64{0, 1, 0x0102030405060708, 1 << 63, math.MaxUint64} {
		p.Attrs = attrs
		holdingIs(t, api.OK, p)
		x, _ := readIs(t, holding(true, tableOf(8, p)))
		if len(x.Parts) != 1 || x.Parts[0] != p {
			t.Fatal(x)
		}
	}
}

// Entry by entry, and of one entry what stands first.
func TestEntryByEntry(t *testing.T) {
	overlaps, nameless, unused := part(2, 5, 6), part(0, 7, 7), api.Part{Attrs: 1}
	holdingIs(t, api.ErrGptOverlap, part(1, 5, 5), overlaps, nameless)
	holdingIs(t, api.ErrGptOverlap, part(1, 5, 5), overlaps, unused)
	holdingIs(t, api.ErrGptEntry, part(1, 5, 5), nameless, overlaps)
	holdingIs(t, api.ErrGptEntry, part(1, 5, 5), unused, overlaps)
	holdingIs(t, api.ErrGptEntry, part(1, 5, 5), part(1, 5, 5))
	holdingIs(t, api.ErrGptEntry, part(1, 5, 5), part(2, 5, 13))
	holdingIs(t, api.ErrGptEntry, part(1, 5, 5), part(2, 3, 5))
	holdingIs(t, api.ErrGptEntry, part(1, 5, 6), part(2, 6, 5))
	holdingIs(t, api.ErrGptOverlap, part(1, 5, 5), part(2, 4, 12))
}

// Disks with some bytes and numbers changed, the sums mended or not.
func TestReadOfAny(t *testing.T) {
	s := source(1)
	seen := map[api.Errno]int{}
	for range 20000 {
		count := 1 + s.below(12)
		room := (count + 3) / 4
		blocks := 2*room + 4 + s.below(8)
		d := tight(blocks, count, s.guid(), s.parts(count, uint64(2+room), uint64(blocks-room-2))...)
		for range s.below(4) {
			spoil(&s, d)
		}
		_, e := readIs(t, d)
		seen[e]++
	}
	for _, e := range []api.Errno{api.OK, api.ErrGptMbr, api.ErrGptHeader, api.ErrGptSum, api.ErrGptPlace, api.ErrGptEntry, api.ErrGptOverlap} {
		if seen[e] < 40 {
			t.Fatal(seen)
		}
	}
}

// spoil changes something of a disk.
func spoil(s *source, d disk) {
	n, other := 1, d.back()
	if s.below(2) == 0 {
		n, other = other, n
	}
	b := d.block(n)
	switch s.below(14) {
	case 0:
		d[s.below(len(d))] ^= byte(1 + s.below(255))
	case 5:
		d[448+s.below(64)] ^= byte(1 + s.below(255))
	case 1:
		b[s.below(512)] ^= byte(1 + s.below(255))
	case 2:
		b[s.below(92)]++
		d.mend(n)
	case 3:
		odd := oddNumbers(d.size())
		order.PutUint64(b[[]int{24, 32, 40, 48, 72}[s.below(5)]:], odd[s.below(len(odd))])
		d.mend(n)
	case 4:
		order.PutUint32(b[80:], uint32(s.below(14)))
		d.mend(n)
	default:
		spoilEntry(s, d, n)
		if s.below(2) == 0 {
			spoilEntry(s, d, other)
		}
	}
}

// spoilEntry changes an entry of the table of the header at a block, and mends the sums, if that table lies in the disk.
func spoilEntry(s *source, d disk, n int) {
	begin, count := order.Uint64(d.block(n)[72:]), order.Uint32(d.block(n)[80:])
	if begin >= uint64(d.size()) || count == 0 || int(begin)*512+128*int(count) > len(d) {
		return
	}
	e := d[512*int(begin)+128*s.below(int(count)):][:128]
	switch s.below(6) {
	case 0:
		e[s.below(128)] ^= byte(1 + s.below(255))
	case 1:
		clear(e[:16])
	case 2:
		clear(e[16:32])
	case 3:
		copy(e[16:32], d[512*int(begin)+16:])
	default:
		first := uint64(s.below(d.size()))
		order.PutUint64(e[32:], first)
		order.PutUint64(e[40:], first+uint64(s.below(3)))
	}
	d.mendTable(n)
}
