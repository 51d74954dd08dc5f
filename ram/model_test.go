package ram_test

import (
	"bytes"
	"math"
	"math/big"
	"slices"
	"testing"

	"barbican/api"
	"barbican/ram"
)

const (
	base = api.RAMBase
	last = base + 1<<16 - 1 // the last byte's address
)

// The chapter's words another way: each address knows its byte and which region has it, and whatever is asked is asked of one address after the other. What the package answers is held against these.
type model struct {
	bytes [1 << 16]byte
	owner [1 << 16]*api.Region
	count int
}

// isWithin tells whether a range is within RAM, by numbers of any size.
func isWithin(at, size uint64) bool {
	from := new(big.Int).Sub(whole(at), whole(base))
	return from.Sign() >= 0 && from.Add(from, whole(size)).Cmp(big.NewInt(1<<16)) <= 0
}

func whole(v uint64) *big.Int { return new(big.Int).SetUint64(v) }

// has is the region that has an address, or none.
func (m *model) has(at uint64) *api.Region {
	if !isWithin(at, 1) {
		return nil
	}
	return m.owner[at-base]
}

func (m *model) add(x api.Region) api.Errno {
	if m.count >= 16 {
		return api.ErrRamMany
	}
	if x.Size == 0 || !isWithin(x.Base, x.Size) {
		return api.ErrRamRange
	}
	if x.Write && x.Exec {
		return api.ErrRamRights
	}
	for i := range x.Size {
		if m.has(x.Base+i) != nil {
			return api.ErrRamOverlap
		}
	}
	for i := range x.Size {
		m.owner[x.Base-base+i] = &x
	}
	m.count++
	return api.OK
}

func (m *model) drop(at uint64) api.Errno {
	x := m.has(at)
	if x == nil || x.Base != at {
		return api.ErrRamNone
	}
	for i := range m.owner {
		if m.owner[i] == x {
			m.owner[i] = nil
		}
	}
	m.count--
	return api.OK
}

func (m *model) regions() []api.Region {
	var l []api.Region
	for i, x := range m.owner {
		if x != nil && x.Base == base+uint64(i) {
			l = append(l, *x)
		}
	}
	return l
}

func (m *model) may(secure bool, a api.Access, at, size uint64) api.Errno {
	if a != api.ToRead && a != api.ToWrite && a != api.ToExec {
		return api.ErrArg
	}
	if !isWithin(at, size) {
		return api.ErrRamRange
	}
	for i := range size {
		x := m.has(at + i)
		if x == nil {
			return api.ErrRamNone
		}
		if x.Secure && !secure {
			return api.ErrRamRights
		}
		if a == api.ToRead && !x.Read || a == api.ToWrite && !x.Write || a == api.ToExec && !x.Exec {
			return api.ErrRamRights
		}
	}
	return api.OK
}

func (m *model) place(at uint64, b []byte) api.Errno {
	if !isWithin(at, uint64(len(b))) {
		return api.ErrRamRange
	}
	for i, v := range b {
		m.bytes[at-base+uint64(i)] = v
	}
	return api.OK
}

func (m *model) peek(at, size uint64) ([]byte, api.Errno) {
	if !isWithin(at, size) {
		return nil, api.ErrRamRange
	}
	var l []byte
	for i := range size {
		l = append(l, m.bytes[at-base+i])
	}
	return l, api.OK
}

func (m *model) store(secure bool, at uint64, b []byte) api.Errno {
	if e := m.may(secure, 2, at, uint64(len(b))); e != api.OK {
		return e
	}
	return m.place(at, b)
}

func (m *model) read(secure bool, a api.Access, at, size uint64) ([]byte, api.Errno) {
	if e := m.may(secure, a, at, size); e != api.OK {
		return nil, e
	}
	return m.peek(at, size)
}

// made is RAM, and a model of it.
func made(t *testing.T) (*ram.RAM, *model) {
	t.Helper()
	r := ram.New()
	if r == nil {
		t.Fatal("no RAM")
	}
	return r, &model{}
}

func addIs(t *testing.T, r *ram.RAM, m *model, x api.Region) api.Errno {
	t.Helper()
	want := m.add(x)
	if e := r.Add(x); e != want {
		t.Fatalf("Add(%+v): %d, not %d", x, e, want)
	}
	return want
}

func dropIs(t *testing.T, r *ram.RAM, m *model, at uint64) api.Errno {
	t.Helper()
	want := m.drop(at)
	if e := r.Drop(at); e != want {
		t.Fatalf("Drop(%#x): %d, not %d", at, e, want)
	}
	return want
}

func findIs(t *testing.T, r *ram.RAM, m *model, at uint64) {
	t.Helper()
	var want api.Region
	x := m.has(at)
	if x != nil {
		want = *x
	}
	if got, ok := r.Find(at); got != want || ok != (x != nil) {
		t.Fatalf("Find(%#x): %+v, %v, not %+v", at, got, ok, want)
	}
}

// mayIs tells what the answer was, if May and the call that is meant answer it.
func mayIs(t *testing.T, r *ram.RAM, m *model, secure bool, a api.Access, at, size uint64) api.Errno {
	t.Helper()
	want := m.may(secure, a, at, size)
	if e := r.May(secure, a, at, size); e != want {
		t.Fatalf("May(%v, %d, %#x, %#x): %d, not %d", secure, a, at, size, e, want)
	}
	return want
}

func readsAre(t *testing.T, r *ram.RAM, m *model, secure bool, at, size uint64) {
	t.Helper()
	want, why := m.read(secure, 1, at, size)
	if b, e := r.Load(secure, at, size); !bytes.Equal(b, want) || e != why {
		t.Fatalf("Load(%v, %#x, %#x): %x, %d, not %x, %d", secure, at, size, b, e, want, why)
	}
	want, why = m.read(secure, 3, at, size)
	if b, e := r.Fetch(secure, at, size); !bytes.Equal(b, want) || e != why {
		t.Fatalf("Fetch(%v, %#x, %#x): %x, %d, not %x, %d", secure, at, size, b, e, want, why)
	}
}

func storeIs(t *testing.T, r *ram.RAM, m *model, secure bool, at uint64, b []byte) api.Errno {
	t.Helper()
	want := m.store(secure, at, b)
	if e := r.Store(secure, at, b); e != want {
		t.Fatalf("Store(%v, %#x, %d bytes): %d, not %d", secure, at, len(b), e, want)
	}
	return want
}

func placeIs(t *testing.T, r *ram.RAM, m *model, at uint64, b []byte) api.Errno {
	t.Helper()
	want := m.place(at, b)
	if e := r.Place(at, b); e != want {
		t.Fatalf("Place(%#x, %d bytes): %d, not %d", at, len(b), e, want)
	}
	return want
}

func peekIs(t *testing.T, r *ram.RAM, m *model, at, size uint64) {
	t.Helper()
	want, why := m.peek(at, size)
	if b, e := r.Peek(at, size); !bytes.Equal(b, want) || e != why {
		t.Fatalf("Peek(%#x, %#x): %x, %d, not %x, %d", at, size, b, e, want, why)
	}
}

// isModel tells of all bytes, and of all regions and their edges.
func isModel(t *testing.T, r *ram.RAM, m *model) {
	t.Helper()
	want := m.regions()
	if l := r.Regions(); !slices.Equal(l, want) {
		t.Fatalf("Regions: %+v, not %+v", l, want)
	}
	for _, x := range want {
		for _, at := range []uint64{x.Base - 1, x.Base, x.Base + x.Size/2, x.Base + x.Size - 1, x.Base + x.Size} {
			findIs(t, r, m, at)
		}
	}
	if b, e := r.Peek(base, 1<<16); !bytes.Equal(b, m.bytes[:]) || e != api.OK {
		t.Fatalf("the bytes differ: %d", e)
	}
}

// oddAddresses are at the edges of RAM and of numbers.
func oddAddresses() []uint64 {
	return []uint64{
		0, 1, 1<<16 - 1, 1 << 16, base - 1<<16, base - 2, base - 1, base, base + 1, base + 2,
		base + 1<<15, last - 1, last, last + 1, last + 2, base + 1<<17, 2 * base, 2*base + 1,
		1<<32 - 1, 1 << 32, 1<<32 + base, 1<<33 + base + 8, 1<<63 - 1, 1 << 63, 1<<63 + base,
		1<<64 - base - 1, 1<<64 - base, 1<<64 - base + 1, 1<<64 - last, math.MaxUint64 - 1<<16, math.MaxUint64 - 1, math.MaxUint64,
	}
}

// oddSizes are such ones too.
func oddSizes() []uint64 {
	return []uint64{
		0, 1, 2, 3, 1 << 15, 1<<16 - 2, 1<<16 - 1, 1 << 16, 1<<16 + 1, base, base + 1, 1<<32 - 1, 1 << 32, 1<<32 + 1, 1<<63 - 1, 1 << 63, 1<<63 + 1,
		1<<64 - last - 2, 1<<64 - last - 1, 1<<64 - last, 1<<64 - base - 1, 1<<64 - base, 1<<64 - base + 1, math.MaxUint64 - 1<<16, math.MaxUint64 - 1, math.MaxUint64,
	}
}

// source is numbers that come anew each time from the same beginning.
type source uint64

func (s *source) next() uint64 {
	*s += 0x9e3779b97f4a7c15
	z := uint64(*s)
	z = (z ^ z>>30) * 0xbf58476d1ce4e5b9
	z = (z ^ z>>27) * 0x94d049bb133111eb
	return z ^ z>>31
}

func (s *source) below(n int) int { return int(s.next() % uint64(n)) }

func (s *source) coin() bool { return s.next()&1 == 1 }

func (s *source) fill(n int) []byte {
	b := make([]byte, n)
	for i := range b {
		b[i] = byte(s.next())
	}
	return b
}

// region is one of any kind in a small piece of RAM, or now and then elsewhere, so that many meet.
func (s *source) region() api.Region {
	at, size := s.place()
	return api.Region{Base: at, Size: size, Read: s.coin(), Write: s.coin(), Exec: s.coin(), Secure: s.coin()}
}

// small is one that leaves room for others.
func (s *source) small() api.Region {
	x := s.region()
	x.Base, x.Size = base+uint64(s.below(4000)), uint64(s.below(40))
	return x
}

// place is an address and a size.
func (s *source) place() (uint64, uint64) {
	if s.below(16) == 0 {
		at, size := oddAddresses(), oddSizes()
		return at[s.below(len(at))], size[s.below(len(size))]
	}
	return base + uint64(s.below(200)), uint64(s.below(40))
}
