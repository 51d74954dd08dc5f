package fuse_test

import (
	"bytes"
	"math"
	"math/big"
	"slices"
	"testing"

	"barbican/api"
	"barbican/fuse"
)

// The chapter's words another way: what was burnt and raised stands in two lists in its order, and each answer is found by going through them. What the package answers is held against these.
type model struct {
	burns  []burn
	raises []raise
}

type burn struct {
	i int
	v byte
}

type raise struct {
	i int
	v uint32
}

// odd are numbers of things that there may or may not be.
func odd() []int {
	l := []int{math.MinInt, math.MinInt + 1, -1 << 62, -1 << 32, -1<<32 + 1, -65, -64, -63, -5, -4, -2, -1}
	for i := range 70 {
		l = append(l, i)
	}
	return append(l, 127, 128, 255, 256, 1<<32, 1<<32+1, 1<<62, math.MaxInt-64, math.MaxInt-63, math.MaxInt-1, math.MaxInt)
}

// fit tells whether a range fits, by numbers of any size.
func fit(i, n, limit int) bool {
	sum := new(big.Int).Add(big.NewInt(int64(i)), big.NewInt(int64(n)))
	return i >= 0 && n >= 0 && sum.Cmp(big.NewInt(int64(limit))) <= 0
}

func (m *model) byte(i int) (byte, bool) {
	at := slices.IndexFunc(m.burns, func(b burn) bool { return b.i == i })
	if at < 0 {
		return 0, false
	}
	return m.burns[at].v, true
}

func (m *model) counter(i int) uint32 {
	var v uint32
	for _, r := range m.raises {
		if r.i == i {
			v = r.v
		}
	}
	return v
}

func (m *model) burn(i int, v byte) api.Errno {
	if i < 0 || i > 63 {
		return api.ErrFuseIndex
	}
	if _, burnt := m.byte(i); burnt {
		return api.ErrFuseBurnt
	}
	m.burns = append(m.burns, burn{i, v})
	return api.OK
}

func (m *model) raise(i int, v uint32) api.Errno {
	if i < 0 || i > 3 {
		return api.ErrFuseIndex
	}
	if m.counter(i) > v {
		return api.ErrFuseBack
	}
	m.raises = append(m.raises, raise{i, v})
	return api.OK
}

func (m *model) row(i, n int) ([]byte, bool, api.Errno) {
	if !fit(i, n, 64) {
		return nil, false, api.ErrFuseIndex
	}
	var l []byte
	all := true
	for k := range n {
		v, burnt := m.byte(i + k)
		l = append(l, v)
		all = all && burnt
	}
	return l, all, api.OK
}

func (m *model) copy() *model {
	return &model{slices.Clone(m.burns), slices.Clone(m.raises)}
}

// made is fuses, and a model of them.
func made(t *testing.T) (*fuse.Fuses, *model) {
	t.Helper()
	f := fuse.New()
	if f == nil {
		t.Fatal("no fuses")
	}
	return f, &model{}
}

func burnIs(t *testing.T, f *fuse.Fuses, m *model, i int, v byte) api.Errno {
	t.Helper()
	want := m.burn(i, v)
	if e := f.Burn(i, v); e != want {
		t.Fatalf("Burn(%d, %d): %d, not %d", i, v, e, want)
	}
	return want
}

func raiseIs(t *testing.T, f *fuse.Fuses, m *model, i int, v uint32) api.Errno {
	t.Helper()
	want := m.raise(i, v)
	if e := f.Raise(i, v); e != want {
		t.Fatalf("Raise(%d, %d): %d, not %d", i, v, e, want)
	}
	return want
}

func readIs(t *testing.T, f *fuse.Fuses, m *model, i int) {
	t.Helper()
	want := api.OK
	if i < 0 || i > 63 {
		want = api.ErrFuseIndex
	}
	v, burnt := m.byte(i)
	if got, is, e := f.Read(i); got != v || is != burnt || e != want {
		t.Fatalf("Read(%d): %d, %v, %d, not %d, %v, %d", i, got, is, e, v, burnt, want)
	}
}

func counterIs(t *testing.T, f *fuse.Fuses, m *model, i int) {
	t.Helper()
	want := api.OK
	if i < 0 || i > 3 {
		want = api.ErrFuseIndex
	}
	if v, e := f.Counter(i); v != m.counter(i) || e != want {
		t.Fatalf("Counter(%d): %d, %d, not %d, %d", i, v, e, m.counter(i), want)
	}
}

func rowIs(t *testing.T, f *fuse.Fuses, m *model, i, n int) {
	t.Helper()
	want, burnt, why := m.row(i, n)
	if l, all, e := f.Row(i, n); !bytes.Equal(l, want) || all != burnt || e != why {
		t.Fatalf("Row(%d, %d): %x, %v, %d, not %x, %v, %d", i, n, l, all, e, want, burnt, why)
	}
}

// isModel tells all that there is to tell.
func isModel(t *testing.T, f *fuse.Fuses, m *model) {
	t.Helper()
	for i := range 64 {
		readIs(t, f, m, i)
	}
	for i := range 4 {
		counterIs(t, f, m, i)
	}
	rowIs(t, f, m, 0, 64)
}

// source is numbers that come anew each time from the same beginning.
type source uint64

func (s *source) next() uint64 {
	*s += 0x9e3779b97f4a7c15
	z := uint64(*s)
	z = (z ^ z>>30) * 0xbf58476d1ce4e5b9
	z = (z ^ z>>27) * 0x94d049bb133111eb
	return z ^ z>>31
}

func (s *source) below(n int) int { return int(s.next() % uint64(n)) }
