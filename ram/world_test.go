package ram_test

import (
	"bytes"
	"math"
	"testing"

	"barbican/api"
)

var worlds = []bool{false, true}

// P16.1: A2.

// Each kind of region, world and access.
func TestMayOfEach(t *testing.T) {
	for n := range 16 {
		x := api.Region{Base: base + 16, Size: 8, Read: n&1 != 0, Write: n&2 != 0, Exec: n&4 != 0, Secure: n&8 != 0}
		if x.Write && x.Exec {
			continue
		}
		r, m := made(t)
		addIs(t, r, m, x)
		placeIs(t, r, m, base+16, []byte{1, 2, 3, 4, 5, 6, 7, 8})
		open := []bool{api.ToRead: x.Read, api.ToWrite: x.Write, api.ToExec: x.Exec}
		for _, secure := range worlds {
			for a := api.ToRead; a <= api.ToExec; a++ {
				want := api.OK
				if !open[a] || x.Secure && !secure {
					want = api.ErrRamRights
				}
				if mayIs(t, r, m, secure, a, base+16, 8) != want || mayIs(t, r, m, secure, a, base+20, 1) != want {
					t.Fatal(x, secure, a)
				}
			}
			readsAre(t, r, m, secure, base+16, 8)
			storeIs(t, r, m, secure, base+17, []byte{9, 8, 7})
			isModel(t, r, m)
		}
	}
}

// An access that there is none of is named ahead of a range that is none.
func TestMayOfNoAccess(t *testing.T) {
	r, m := made(t)
	addIs(t, r, m, api.Region{Base: base, Size: 1 << 16, Read: true, Write: true})
	for _, a := range []api.Access{math.MinInt, -1 << 32, -3, -2, -1, 0, 4, 5, 1<<32 + 1, math.MaxInt} {
		for _, secure := range worlds {
			for _, at := range oddAddresses() {
				for _, size := range []uint64{0, 1, 1 << 16, math.MaxUint64} {
					if mayIs(t, r, m, secure, a, at, size) != api.ErrArg {
						t.Fatal(a)
					}
				}
			}
		}
	}
}

// Every beginning and size at the edges, with all of RAM in a region and without any.
func TestMayOfOddRanges(t *testing.T) {
	empty, none := made(t)
	full, all := made(t)
	addIs(t, full, all, api.Region{Base: base, Size: 1 << 16, Read: true, Exec: true})
	for _, at := range oddAddresses() {
		for _, size := range oddSizes() {
			for a := api.ToRead; a <= api.ToExec; a++ {
				mayIs(t, empty, none, true, a, at, size)
				mayIs(t, full, all, false, a, at, size)
			}
			readsAre(t, empty, none, false, at, size)
			readsAre(t, full, all, false, at, size)
		}
		for _, size := range []int{0, 1, 2, 1 << 16, 1<<16 + 1} {
			storeIs(t, empty, none, true, at, make([]byte, size))
			storeIs(t, full, all, true, at, make([]byte, size))
		}
	}
}

// A range of no bytes is open wherever RAM is, whatever is there; right behind the last byte too.
func TestMayOfNoBytes(t *testing.T) {
	r, m := made(t)
	addIs(t, r, m, api.Region{Base: base + 4, Size: 4, Secure: true})
	for _, at := range []uint64{base, base + 4, base + 6, base + 8, last, last + 1} {
		for a := api.ToRead; a <= api.ToExec; a++ {
			if mayIs(t, r, m, false, a, at, 0) != api.OK {
				t.Fatal(at)
			}
		}
		if b, e := r.Load(false, at, 0); len(b) != 0 || e != api.OK {
			t.Fatal(b, e)
		}
		if b, e := r.Fetch(false, at, 0); len(b) != 0 || e != api.OK {
			t.Fatal(b, e)
		}
		if r.Store(false, at, nil) != api.OK || r.Store(false, at, []byte{}) != api.OK {
			t.Fatal(at)
		}
	}
	for _, at := range []uint64{0, base - 1, last + 2, math.MaxUint64} {
		if mayIs(t, r, m, true, api.ToRead, at, 0) != api.ErrRamRange || r.Store(true, at, nil) != api.ErrRamRange {
			t.Fatal(at)
		}
	}
}

// The first address at which something is amiss tells what: each range over a row of regions and gaps.
func TestMayTellsOfTheFirstAddress(t *testing.T) {
	r, m := made(t)
	for _, x := range []api.Region{
		{Base: base, Size: 3, Read: true, Write: true},
		{Base: base + 3, Size: 2, Read: true, Exec: true},
		{Base: base + 8, Size: 1, Read: true, Write: true, Secure: true},
		{Base: base + 9, Size: 3, Write: true},
		{Base: base + 12, Size: 2, Exec: true, Secure: true},
		{Base: base + 20, Size: 4, Read: true},
		{Base: base + 24, Size: 1},
		{Base: base + 25, Size: 2, Read: true, Write: true},
		{Base: base + 27, Size: 5, Exec: true},
		{Base: base + 33, Size: 6, Read: true, Write: true},
		{Base: base + 39, Size: 6, Read: true, Write: true},
	} {
		if addIs(t, r, m, x) != api.OK {
			t.Fatal(x)
		}
	}
	seen := map[api.Errno]int{}
	for at := uint64(base); at < base+50; at++ {
		for size := range uint64(50) {
			for _, secure := range worlds {
				for a := api.ToRead; a <= api.ToExec; a++ {
					seen[mayIs(t, r, m, secure, a, at, size)]++
				}
				readsAre(t, r, m, secure, at, size)
				storeIs(t, r, m, secure, at, bytes.Repeat([]byte{byte(size)}, int(size)))
			}
		}
	}
	isModel(t, r, m)
	if seen[api.OK] < 300 || seen[api.ErrRamNone] < 300 || seen[api.ErrRamRights] < 300 {
		t.Fatal(seen)
	}
}

// A gap ahead of a wrong region, a wrong region ahead of a gap.
func TestMayOfGaps(t *testing.T) {
	r, m := made(t)
	addIs(t, r, m, api.Region{Base: base + 4, Size: 4, Read: true, Secure: true})
	addIs(t, r, m, api.Region{Base: base + 8, Size: 4, Read: true})
	for _, c := range []struct {
		secure   bool
		at, size uint64
		want     api.Errno
	}{
		{false, base + 3, 2, api.ErrRamNone},
		{true, base + 3, 2, api.ErrRamNone},
		{false, base + 4, 9, api.ErrRamRights},
		{true, base + 4, 9, api.ErrRamNone},
		{true, base + 4, 8, api.OK},
		{true, base + 7, 2, api.OK},
		{false, base + 7, 2, api.ErrRamRights},
		{false, base + 8, 4, api.OK},
		{false, base + 8, 5, api.ErrRamNone},
		{false, base + 11, 1, api.OK},
		{false, base + 12, 1, api.ErrRamNone},
		{false, base + 12, 1<<16 - 12, api.ErrRamNone},
		{false, base + 12, 1<<16 - 11, api.ErrRamRange},
	} {
		if e := mayIs(t, r, m, c.secure, api.ToRead, c.at, c.size); e != c.want {
			t.Fatal(c, e)
		}
	}
}

// Bytes over some regions are read and written as one piece.
func TestOverSomeRegions(t *testing.T) {
	r, m := made(t)
	for n := range uint64(16) {
		addIs(t, r, m, api.Region{Base: base + 1<<16 - 16*(n+1), Size: 16, Read: true, Write: true, Secure: n%2 == 0})
	}
	s := source(11)
	at := uint64(base + 1<<16 - 16*16)
	if storeIs(t, r, m, true, at, s.fill(256)) != api.OK || storeIs(t, r, m, true, at+5, s.fill(250)) != api.OK {
		t.Fatal("Store")
	}
	readsAre(t, r, m, true, at, 256)
	if storeIs(t, r, m, true, at-1, s.fill(2)) != api.ErrRamNone || storeIs(t, r, m, false, at, s.fill(17)) != api.ErrRamRights {
		t.Fatal("Store")
	}
	isModel(t, r, m)
}

// P16.2.

func TestApart(t *testing.T) {
	s := source(12)
	for range 30 {
		r, m := made(t)
		for range 100 {
			stir(t, &s, r, m, 3)
			l := r.Regions()
			if len(l) > 16 {
				t.Fatal(len(l))
			}
			var free uint64 = base // all ahead of it is spent
			for _, x := range l {
				if x.Base < free || x.Size == 0 || x.Size > last+1-x.Base || x.Write && x.Exec {
					t.Fatal(l)
				}
				free = x.Base + x.Size
			}
		}
	}
}

// P16.3.

// Whatever the non-secure world stores, of a region that isn't open to it no byte changes.
func TestWorlds(t *testing.T) {
	s := source(13)
	stored := 0
	for range 30 {
		r, m := made(t)
		placeIs(t, r, m, base, s.fill(1<<16))
		for range 16 {
			addIs(t, r, m, s.region())
		}
		for range 100 {
			at, _ := s.place()
			before, _ := r.Peek(base, 1<<16)
			e := storeIs(t, r, m, false, at, s.fill(s.below(12)))
			after, _ := r.Peek(base, 1<<16)
			for i := range after {
				if after[i] == before[i] {
					continue
				}
				if x, ok := r.Find(base + uint64(i)); e != api.OK || !ok || x.Secure || !x.Write {
					t.Fatal(e, x, ok)
				}
				stored++
			}
		}
		isModel(t, r, m)
	}
	if stored < 100 {
		t.Fatal(stored)
	}
}

// A store that is refused for its last byte alone stores none of the others; so does one that is refused at its first.
func TestStoreOfAllOrNone(t *testing.T) {
	for _, x := range []api.Region{
		{Base: base + 8, Size: 8, Read: true, Exec: true},
		{Base: base + 8, Size: 8, Read: true, Write: true, Secure: true},
		{Base: base + 9, Size: 8, Read: true, Write: true},
	} {
		r, m := made(t)
		addIs(t, r, m, api.Region{Base: base, Size: 8, Read: true, Write: true})
		addIs(t, r, m, x)
		addIs(t, r, m, api.Region{Base: base + 17, Size: 8, Read: true, Write: true})
		placeIs(t, r, m, base, bytes.Repeat([]byte{0xaa}, 64))
		for at := uint64(base); at < base+9; at++ {
			if storeIs(t, r, m, false, at, bytes.Repeat([]byte{1}, int(base+9-at))) == api.OK {
				t.Fatal(x, at)
			}
		}
		if b, e := r.Peek(base, 64); !bytes.Equal(b, bytes.Repeat([]byte{0xaa}, 64)) || e != api.OK {
			t.Fatal(b, e)
		}
		isModel(t, r, m)
	}
}
