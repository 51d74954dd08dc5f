package gpt_test

import (
	"slices"
	"testing"

	"barbican/api"
)

// P17.1: the faults of a header, up to its table's sum.

// onlyAt is a disk with one header alone, the one at the front or the one at the back.
func onlyAt(front bool) (disk, int) {
	d := tight(12, 7, api.GUID{1, 2, 3}, part(1, 4, 5), part(2, 7, 7))
	if front {
		clear(d.block(d.back()))
		return d, 1
	}
	clear(d.block(1))
	return d, d.back()
}

// told is the fault that a disk of onlyAt has: that at the back is not told.
func told(front bool, fault api.Errno) api.Errno {
	if front || fault == api.OK {
		return fault
	}
	return api.ErrGptHeader
}

var sides = []bool{true, false}

// Each byte of a header.
func TestHeaderBytes(t *testing.T) {
	for _, front := range sides {
		for at := range 512 {
			for _, change := range []byte{1, 0x40, 0xff} {
				d, n := onlyAt(front)
				d.block(n)[at] ^= change
				want := api.ErrGptSum
				if at < 16 || at >= 20 && at < 24 || at >= 92 {
					want = api.ErrGptHeader
				}
				if _, e := readIs(t, d); e != told(front, want) {
					t.Fatal(front, at, e)
				}
			}
		}
	}
}

// Likewise, with the sum mended: the disk's name may be any.
func TestHeaderBytesMended(t *testing.T) {
	for _, front := range sides {
		for at := range 512 {
			if at >= 16 && at < 20 {
				continue
			}
			for _, change := range []byte{1, 2, 0x40, 0xff} {
				d, n := onlyAt(front)
				d.block(n)[at] ^= change
				d.mend(n)
				x, e := readIs(t, d)
				switch {
				case at < 24 || at >= 92:
					if e != api.ErrGptHeader {
						t.Fatal(front, at, e)
					}
				case at >= 56 && at < 72:
					if e != api.OK || x.Disk[at-56] != (api.GUID{1, 2, 3})[at-56]^change || x.Backup == front {
						t.Fatal(front, at, x, e)
					}
				case at >= 24 && at < 40 || at >= 72 && at < 80 || at >= 84 && at < 88:
					if e != told(front, api.ErrGptPlace) {
						t.Fatal(front, at, e)
					}
				case at >= 88:
					if e != told(front, api.ErrGptSum) {
						t.Fatal(front, at, e)
					}
				}
			}
		}
	}
}

// Each number of a header, at the edges of all numbers.
func TestHeaderNumbers(t *testing.T) {
	seen := map[api.Errno]int{}
	for _, front := range sides {
		for _, field := range []struct{ at, size int }{{24, 8}, {32, 8}, {40, 8}, {48, 8}, {72, 8}, {80, 4}, {84, 4}} {
			for _, v := range append(oddNumbers(12), 127, 128, 129, 256, 1<<32-128, 1<<32-4, 1<<32-3) {
				d, n := onlyAt(front)
				if field.size == 8 {
					order.PutUint64(d.block(n)[field.at:], v)
				} else {
					order.PutUint32(d.block(n)[field.at:], uint32(v))
				}
				d.mend(n)
				_, e := readIs(t, d)
				seen[e]++
			}
		}
	}
	if seen[api.OK] < 14 || seen[api.ErrGptPlace] < 100 || seen[api.ErrGptSum] < 5 || seen[api.ErrGptEntry] < 5 {
		t.Fatal(seen)
	}
}

// How many entries a table may have, with room for more.
func TestCount(t *testing.T) {
	for _, front := range sides {
		for _, count := range []int{0, 1, 2, 3, 4, 5, 8, 9, 127, 128, 129, 130, 132, 256} {
			d := tight(300, 256, api.GUID{1}, part(1, 66, 234))
			n, other := 1, d.back()
			if !front {
				n, other = other, n
			}
			clear(d.block(other))
			order.PutUint32(d.block(n)[80:], uint32(count))
			d.mendTable(n)
			want := api.OK
			if count == 0 || count > 128 {
				want = told(front, api.ErrGptPlace)
			}
			if x, e := readIs(t, d); e != want || e == api.OK && len(x.Parts) != 1 {
				t.Fatal(front, count, x, e)
			}
		}
	}
}

// Every place of a table, and every first and last block for partitions, on a small disk.
func TestPlaces(t *testing.T) {
	const blocks = 10
	seen := map[api.Errno]int{}
	for _, front := range sides {
		for _, count := range []uint32{4, 5} {
			d := empty(blocks)
			n, other := 1, d.back()
			if !front {
				n, other = other, n
			}
			table := tableOf(int(count))
			for first := range uint64(blocks + 1) {
				for last := range uint64(blocks + 1) {
					for begin := range uint64(blocks + 1) {
						d.put(n, head{uint64(n), uint64(other), first, last, api.GUID{}, begin, count, 128}, table)
						_, e := readIs(t, d)
						seen[e]++
					}
				}
			}
			if seen[api.OK] == 0 {
				t.Fatal(front, count)
			}
		}
	}
	if seen[api.OK] < 100 || seen[api.ErrGptPlace] < 1000 {
		t.Fatal(seen)
	}
}

// The edges of the places by themselves.
func TestPlacesByName(t *testing.T) {
	for i, c := range []struct {
		front              bool
		first, last, begin uint64
		count              uint32
		want               api.Errno
	}{
		{true, 3, 10, 2, 4, api.OK},
		{true, 3, 10, 2, 5, api.ErrGptPlace},
		{true, 4, 10, 2, 5, api.OK},
		{true, 4, 10, 3, 4, api.OK}, // not right behind the header
		{true, 4, 10, 4, 4, api.ErrGptPlace},
		{true, 3, 10, 1, 4, api.ErrGptPlace},
		{true, 3, 10, 0, 4, api.ErrGptPlace},
		{true, 2, 10, 2, 4, api.ErrGptPlace},
		{true, 1, 10, 2, 4, api.ErrGptPlace},
		{true, 3, 3, 2, 1, api.OK},
		{true, 4, 3, 2, 1, api.ErrGptPlace},
		{true, 3, 11, 2, 1, api.ErrGptPlace},
		{true, 3, 1<<64 - 1, 2, 1, api.ErrGptPlace},
		{true, 10, 10, 9, 1, api.OK},
		{true, 10, 10, 2, 32, api.OK},
		{true, 10, 10, 2, 33, api.ErrGptPlace},
		{true, 10, 10, 1<<64 - 1, 5, api.ErrGptPlace},
		{true, 10, 10, 1<<64 - 1, 4, api.ErrGptPlace},
		{true, 10, 10, 1<<63 + 2, 4, api.ErrGptPlace},
		{true, 10, 10, 1<<55 + 2, 4, api.ErrGptPlace},
		{false, 2, 9, 10, 4, api.OK}, // the front's table has no say here
		{false, 2, 9, 10, 5, api.ErrGptPlace},
		{false, 2, 8, 9, 5, api.OK},
		{false, 2, 8, 9, 4, api.OK},
		{false, 2, 9, 9, 4, api.ErrGptPlace},
		{false, 2, 8, 11, 4, api.ErrGptPlace},
		{false, 2, 8, 10, 8, api.ErrGptPlace},
		{false, 2, 10, 10, 1, api.ErrGptPlace},
		{false, 2, 10, 11, 1, api.ErrGptPlace},
		{false, 1, 8, 10, 4, api.ErrGptPlace},
		{false, 0, 8, 10, 4, api.ErrGptPlace},
		{false, 2, 2, 3, 32, api.OK},
		{false, 2, 2, 3, 33, api.ErrGptPlace},
		{false, 2, 8, 1<<64 - 1, 5, api.ErrGptPlace},
		{false, 2, 1<<64 - 1, 10, 4, api.ErrGptPlace},
	} {
		d := empty(12)
		n, other := 1, d.back()
		if !c.front {
			n, other = other, n
		}
		d.put(n, head{uint64(n), uint64(other), c.first, c.last, api.GUID{}, c.begin, c.count, 128}, tableOf(int(c.count)))
		if _, e := readIs(t, d); e != told(c.front, c.want) {
			t.Fatal(i, e)
		}
	}
}

// A header is that of its own block alone.
func TestHeaderElsewhere(t *testing.T) {
	d := tight(12, 4, api.GUID{1}, part(1, 4, 4))
	front, back := slices.Clone(d.block(1)), slices.Clone(d.block(d.back()))
	copy(d.block(1), back)
	copy(d.block(d.back()), front)
	if _, e := readIs(t, d); e != api.ErrGptPlace {
		t.Fatal(e)
	}
	copy(d.block(d.back()), back)
	if x, e := readIs(t, d); e != api.OK || !x.Backup {
		t.Fatal(x, e)
	}
	copy(d.block(1), front)
	copy(d.block(d.back()), front)
	if x, e := readIs(t, d); e != api.OK || x.Backup {
		t.Fatal(x, e)
	}
}

// The sum of a table is that of its entries: what stands behind them in its last block does not count.
func TestTableSum(t *testing.T) {
	for _, front := range sides {
		for count := 1; count <= 9; count++ {
			whole := tight(12, count, api.GUID{1}, part(1, 6, 6))
			n, other := 1, whole.back()
			if !front {
				n, other = other, n
			}
			clear(whole.block(other))
			begin := 512 * int(order.Uint64(whole.block(n)[72:]))
			for at := range 512 * ((count + 3) / 4) {
				d := whole.clone()
				d[begin+at] ^= 0x10
				want := api.OK
				if at < 128*count {
					want = told(front, api.ErrGptSum)
				}
				if _, e := readIs(t, d); e != want {
					t.Fatal(front, count, at, e)
				}
			}
		}
	}
}

// Of two faults of a header the first one is told.
func TestOrderOfFaults(t *testing.T) {
	faults := []struct {
		want api.Errno
		make func(d disk)
	}{
		{api.ErrGptHeader, func(d disk) { d.block(1)[511] = 1 }},
		{api.ErrGptSum, func(d disk) { d.block(1)[17] ^= 1 }},
		{api.ErrGptPlace, func(d disk) { d.block(1)[32]--; d.mend(1) }},
		{api.ErrGptSum, func(d disk) { d.block(1)[91] ^= 1; d.mend(1) }},
		{api.ErrGptEntry, func(d disk) { d.change(1, 2, part(9, 6, 5)) }},
	}
	for i, first := range faults {
		for _, second := range faults[i+1:] {
			d, _ := onlyAt(true)
			second.make(d)
			first.make(d)
			if _, e := readIs(t, d); e != first.want {
				t.Fatal(e, first.want, second.want)
			}
		}
	}
}
