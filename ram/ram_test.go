package ram_test

import (
	"bytes"
	"testing"

	"barbican/api"
	"barbican/ram"
)

// P16.1: A1.

func TestNew(t *testing.T) {
	r, m := made(t)
	isModel(t, r, m)
	if l := r.Regions(); len(l) != 0 {
		t.Fatal(l)
	}
	for at := uint64(base - 1); at <= last+1; at++ {
		findIs(t, r, m, at)
	}
}

func TestExamples(t *testing.T) {
	r, m := made(t)
	for n, c := range []struct {
		x    api.Region
		want api.Errno
	}{
		{api.Region{Base: base, Size: 16, Read: true, Write: true}, api.OK},
		{api.Region{Base: base + 15, Size: 1}, api.ErrRamOverlap},
		{api.Region{Base: base + 1<<16 - 1, Size: 2}, api.ErrRamRange},
		{api.Region{Base: 1<<64 - 1, Size: 2}, api.ErrRamRange},
	} {
		if addIs(t, r, m, c.x) != c.want {
			t.Fatal(n)
		}
	}
	if storeIs(t, r, m, false, base+8, make([]byte, 9)) != api.ErrRamNone {
		t.Fatal("Store")
	}
	isModel(t, r, m)
}

// Every beginning and size at the edges of RAM and of numbers.
func TestAddOfOddRanges(t *testing.T) {
	added := 0
	for _, at := range oddAddresses() {
		for _, size := range oddSizes() {
			want := api.OK
			if size == 0 || !isWithin(at, size) {
				want = api.ErrRamRange
			}
			r := ram.New()
			x := api.Region{Base: at, Size: size, Read: true}
			if e := r.Add(x); e != want {
				t.Fatalf("%#x, %#x: %d", at, size, e)
			}
			if l := r.Regions(); (want == api.OK) != (len(l) == 1 && l[0] == x) || want != api.OK && len(l) != 0 {
				t.Fatal(l)
			}
			added += len(r.Regions())
		}
	}
	if added < 20 {
		t.Fatal(added)
	}
}

// Each of the sixteen rights there are; those that allow to be written and executed are refused.
func TestAddOfRights(t *testing.T) {
	for n := range 16 {
		r, m := made(t)
		x := api.Region{Base: base + 5, Size: 7, Read: n&1 != 0, Write: n&2 != 0, Exec: n&4 != 0, Secure: n&8 != 0}
		want := api.OK
		if n&6 == 6 {
			want = api.ErrRamRights
		}
		if addIs(t, r, m, x) != want {
			t.Fatal(n)
		}
		isModel(t, r, m)
		if got, ok := r.Find(base + 11); ok != (want == api.OK) || ok && got != x {
			t.Fatal(got, ok)
		}
	}
}

// A region against each one near it: those that touch are apart, those that share a byte aren't.
func TestAddBesideAnother(t *testing.T) {
	r, m := made(t)
	addIs(t, r, m, api.Region{Base: base + 10, Size: 4, Read: true})
	addIs(t, r, m, api.Region{Base: base + 20, Size: 1, Exec: true})
	for at := uint64(base); at < base+24; at++ {
		for size := range uint64(26) {
			x := api.Region{Base: at, Size: size, Write: true}
			if addIs(t, r, m, x) == api.OK {
				dropIs(t, r, m, at)
			}
		}
	}
	isModel(t, r, m)
	for _, c := range []struct {
		at, size uint64
		want     api.Errno
	}{
		{base, 10, api.OK},
		{base + 14, 6, api.OK},
		{base + 13, 1, api.ErrRamOverlap},
		{base + 13, 7, api.ErrRamOverlap},
		{base + 14, 7, api.ErrRamOverlap},
		{base, 1 << 16, api.ErrRamOverlap},
		{base + 21, 1<<16 - 21, api.OK},
	} {
		if addIs(t, r, m, api.Region{Base: c.at, Size: c.size}) != c.want {
			t.Fatal(c)
		}
	}
	isModel(t, r, m)
}

// All of RAM is one region; there is no room beside it.
func TestAddOfAll(t *testing.T) {
	r, m := made(t)
	if addIs(t, r, m, api.Region{Base: base, Size: 1 << 16, Exec: true, Secure: true}) != api.OK {
		t.Fatal("not added")
	}
	for _, at := range []uint64{base, base + 1, base + 1<<15, last} {
		if addIs(t, r, m, api.Region{Base: at, Size: 1}) != api.ErrRamOverlap {
			t.Fatal(at)
		}
	}
	for at := uint64(base - 2); at <= last+2; at++ {
		findIs(t, r, m, at)
	}
	if dropIs(t, r, m, base) != api.OK {
		t.Fatal("not gone")
	}
	isModel(t, r, m)
}

// Sixteen there may be, in whatever order they come.
func TestAddOfMany(t *testing.T) {
	s := source(1)
	for range 20 {
		r, m := made(t)
		for m.count < 16 {
			addIs(t, r, m, s.small())
		}
		isModel(t, r, m)
		for _, x := range []api.Region{
			{Base: base + 4096, Size: 1},
			{Base: base + 4096, Size: 0},
			{Base: base + 4096, Size: 1, Write: true, Exec: true},
			{Base: r.Regions()[3].Base, Size: 1},
			{Base: 0, Size: 1},
		} {
			if addIs(t, r, m, x) != api.ErrRamMany {
				t.Fatal(x)
			}
		}
		isModel(t, r, m)
		at := r.Regions()[s.below(16)].Base
		dropIs(t, r, m, at)
		if addIs(t, r, m, api.Region{Base: base + 4096, Size: 1}) != api.OK {
			t.Fatal("no room for the sixteenth")
		}
		isModel(t, r, m)
	}
}

// Where several errors apply, the one that is named first.
func TestAddOrder(t *testing.T) {
	r, m := made(t)
	addIs(t, r, m, api.Region{Base: base, Size: 16})
	for _, c := range []struct {
		x    api.Region
		want api.Errno
	}{
		{api.Region{Base: base, Size: 0, Write: true, Exec: true}, api.ErrRamRange},
		{api.Region{Base: base, Size: 1<<16 + 1, Write: true, Exec: true}, api.ErrRamRange},
		{api.Region{Base: base, Size: 1<<16 + 1}, api.ErrRamRange},
		{api.Region{Base: base - 1, Size: 5}, api.ErrRamRange},
		{api.Region{Base: base, Size: 1, Write: true, Exec: true}, api.ErrRamRights},
		{api.Region{Base: base, Size: 1}, api.ErrRamOverlap},
	} {
		if addIs(t, r, m, c.x) != c.want {
			t.Fatal(c)
		}
	}
	isModel(t, r, m)
}

// A region goes by its beginning alone, and its bytes stay.
func TestDrop(t *testing.T) {
	r, m := made(t)
	if dropIs(t, r, m, base) != api.ErrRamNone {
		t.Fatal("one there was not")
	}
	addIs(t, r, m, api.Region{Base: base + 4, Size: 4, Write: true})
	addIs(t, r, m, api.Region{Base: base + 8, Size: 2, Write: true})
	addIs(t, r, m, api.Region{Base: base + 20, Size: 3, Write: true})
	storeIs(t, r, m, false, base+4, []byte{1, 2, 3, 4, 5, 6})
	for _, at := range append(oddAddresses(), base+3, base+5, base+6, base+7, base+9, base+10, base+19, base+21, base+23) {
		if dropIs(t, r, m, at) != api.ErrRamNone {
			t.Fatal(at)
		}
	}
	isModel(t, r, m)
	for _, at := range []uint64{base + 8, base + 4, base + 20} {
		if dropIs(t, r, m, at) != api.OK {
			t.Fatal(at)
		}
		isModel(t, r, m)
		if dropIs(t, r, m, at) != api.ErrRamNone {
			t.Fatal("gone twice", at)
		}
	}
	if b, e := r.Peek(base+4, 6); !bytes.Equal(b, []byte{1, 2, 3, 4, 5, 6}) || e != api.OK {
		t.Fatal(b, e)
	}
	// What is added there anew has the bytes that stayed.
	addIs(t, r, m, api.Region{Base: base + 5, Size: 4, Read: true})
	readsAre(t, r, m, false, base+5, 4)
	isModel(t, r, m)
}

func TestRegionsRise(t *testing.T) {
	r, m := made(t)
	for _, n := range []uint64{9, 2, 5, 15, 0, 7, 1, 14, 3, 8, 12, 4, 10, 6, 13, 11} {
		addIs(t, r, m, api.Region{Base: base + 4096*n, Size: 1 + 273*n, Read: n%2 == 0, Exec: n%3 == 0, Secure: n%5 == 0})
		isModel(t, r, m)
	}
	for n, x := range r.Regions() {
		if x.Base != base+4096*uint64(n) {
			t.Fatal(n, x)
		}
	}
}

func TestFind(t *testing.T) {
	r, m := made(t)
	addIs(t, r, m, api.Region{Base: base, Size: 3, Read: true})
	addIs(t, r, m, api.Region{Base: base + 3, Size: 1, Write: true})
	addIs(t, r, m, api.Region{Base: base + 100, Size: 50, Exec: true, Secure: true})
	addIs(t, r, m, api.Region{Base: last, Size: 1, Read: true, Exec: true})
	for at := uint64(base - 5); at <= last+5; at++ {
		findIs(t, r, m, at)
	}
	for _, at := range oddAddresses() {
		findIs(t, r, m, at)
	}
}

// P16.1: A3.

func TestPlaceAndPeek(t *testing.T) {
	s := source(2)
	r, m := made(t)
	addIs(t, r, m, api.Region{Base: base + 8, Size: 8, Read: true, Secure: true})
	for _, at := range oddAddresses() {
		for _, size := range []int{0, 1, 2, 3, 300, 1<<16 - 1, 1 << 16, 1<<16 + 1} {
			placeIs(t, r, m, at, s.fill(size))
			peekIs(t, r, m, at, uint64(size))
		}
		for _, size := range oddSizes() {
			peekIs(t, r, m, at, size)
		}
	}
	isModel(t, r, m)
	if placeIs(t, r, m, last+1, nil) != api.OK || placeIs(t, r, m, last+2, nil) != api.ErrRamRange || placeIs(t, r, m, base-1, nil) != api.ErrRamRange {
		t.Fatal("no bytes")
	}
	if placeIs(t, r, m, last, []byte{1, 2}) != api.ErrRamRange || placeIs(t, r, m, base-1, []byte{1, 2}) != api.ErrRamRange {
		t.Fatal("over the edge")
	}
	isModel(t, r, m)
}

func TestPlaceChangesItsBytesAlone(t *testing.T) {
	s := source(3)
	r, m := made(t)
	placeIs(t, r, m, base, s.fill(1<<16))
	for range 50 {
		at := s.below(1 << 16)
		placeIs(t, r, m, base+uint64(at), s.fill(s.below(1<<16-at+1)))
		isModel(t, r, m)
	}
}

func TestWipe(t *testing.T) {
	s := source(4)
	r, m := made(t)
	for range 3 {
		placeIs(t, r, m, base, bytes.Repeat([]byte{0xff}, 1<<16))
		for m.count < 16 {
			addIs(t, r, m, s.small())
		}
		r.Wipe()
		*m = model{}
		isModel(t, r, m)
		for at := uint64(base); at <= last; at += 255 {
			findIs(t, r, m, at)
		}
		if mayIs(t, r, m, true, api.ToRead, base, 1) != api.ErrRamNone {
			t.Fatal("May")
		}
		if dropIs(t, r, m, base) != api.ErrRamNone {
			t.Fatal("Drop")
		}
		r.Wipe()
		isModel(t, r, m)
	}
}

// Rules.

func TestNil(t *testing.T) {
	var r *ram.RAM
	r.Wipe()
	if l := r.Regions(); len(l) != 0 {
		t.Fatal(l)
	}
	for _, at := range oddAddresses() {
		if x, ok := r.Find(at); x != (api.Region{}) || ok {
			t.Fatal(x, ok)
		}
		for _, size := range []uint64{0, 1, 1 << 16, 1<<64 - 1} {
			nilAnswers(t, r, at, size)
		}
		for _, b := range [][]byte{nil, {1}, make([]byte, 1<<16+1)} {
			if r.Place(at, b) != api.ErrArg || r.Store(true, at, b) != api.ErrArg || r.Store(false, at, b) != api.ErrArg {
				t.Fatal(at, len(b))
			}
		}
		if r.Drop(at) != api.ErrArg {
			t.Fatal(at)
		}
	}
}

func nilAnswers(t *testing.T, r *ram.RAM, at, size uint64) {
	t.Helper()
	if r.Add(api.Region{Base: at, Size: size, Write: true, Exec: true}) != api.ErrArg || r.Add(api.Region{Base: at, Size: size}) != api.ErrArg {
		t.Fatal("Add")
	}
	if b, e := r.Peek(at, size); len(b) != 0 || e != api.ErrArg {
		t.Fatal(b, e)
	}
	for _, secure := range []bool{false, true} {
		for a := api.Access(-1); a < 6; a++ {
			if e := r.May(secure, a, at, size); e != api.ErrArg {
				t.Fatal(e)
			}
		}
		if b, e := r.Load(secure, at, size); len(b) != 0 || e != api.ErrArg {
			t.Fatal(b, e)
		}
		if b, e := r.Fetch(secure, at, size); len(b) != 0 || e != api.ErrArg {
			t.Fatal(b, e)
		}
	}
}

// What is answered may be written into, and what was handed in may change: RAM stays as it was, and what is behind a list's length too.
func TestMemoryIsItsOwn(t *testing.T) {
	s := source(5)
	r, m := made(t)
	addIs(t, r, m, api.Region{Base: base, Size: 64, Read: true, Write: true})
	addIs(t, r, m, api.Region{Base: base + 64, Size: 64, Read: true, Exec: true})
	placeIs(t, r, m, base, s.fill(256))
	for range 2 {
		one, _ := r.Load(false, base+3, 90)
		two, _ := r.Fetch(false, base+70, 9)
		three, _ := r.Peek(base+3, 200)
		none, _ := r.Peek(base+7, 0)
		for _, b := range [][]byte{one, two, three, none} {
			clear(b[:cap(b)])
		}
		l := r.Regions()
		clear(l[:cap(l)])
		isModel(t, r, m)
	}
	long := s.fill(100)
	same := bytes.Clone(long)
	storeIs(t, r, m, false, base, long[20:40])
	placeIs(t, r, m, base+100, long[30:50])
	if !bytes.Equal(long, same) {
		t.Fatal("written into")
	}
	clear(long)
	isModel(t, r, m)
}

// Two have nothing in common.
func TestTwo(t *testing.T) {
	s := source(6)
	r, m := made(t)
	q, o := made(t)
	for range 100 {
		stir(t, &s, r, m, 4)
		isModel(t, q, o)
		stir(t, &s, q, o, 4)
		isModel(t, r, m)
	}
}

// P2: the same calls answer the same.
func TestSameTwice(t *testing.T) {
	for range 3 {
		s := source(7)
		r, m := made(t)
		stir(t, &s, r, m, 300)
		isModel(t, r, m)
	}
}

// Rule 3: with an error nothing has changed.
func TestRefusedChangesNothing(t *testing.T) {
	s := source(8)
	refused := 0
	for range 20 {
		r, m := made(t)
		stir(t, &s, r, m, 40)
		for range 40 {
			before := *m
			if change(t, &s, r, m) != api.OK {
				isModel(t, r, &before)
				refused++
			}
		}
	}
	if refused < 200 {
		t.Fatal(refused)
	}
}

// stir calls some calls, of any kind.
func stir(t *testing.T, s *source, r *ram.RAM, m *model, calls int) {
	t.Helper()
	for range calls {
		at, size := s.place()
		switch s.below(8) {
		case 0:
			mayIs(t, r, m, s.coin(), api.Access(s.below(5)), at, size)
		case 1:
			readsAre(t, r, m, s.coin(), at, size)
		case 2:
			peekIs(t, r, m, at, size)
		case 3:
			findIs(t, r, m, at)
		default:
			change(t, s, r, m)
		}
	}
}

// change calls one of those that change something.
func change(t *testing.T, s *source, r *ram.RAM, m *model) api.Errno {
	t.Helper()
	at, _ := s.place()
	switch s.below(8) {
	case 0:
		if l := m.regions(); len(l) > 0 && s.coin() {
			at = l[s.below(len(l))].Base
		}
		return dropIs(t, r, m, at)
	case 1:
		return placeIs(t, r, m, at, s.fill(s.below(40)))
	case 2, 3, 4:
		return storeIs(t, r, m, s.coin(), at, s.fill(s.below(12)))
	}
	return addIs(t, r, m, s.region())
}
