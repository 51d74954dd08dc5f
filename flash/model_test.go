package flash_test

import (
	"bytes"
	"math/big"
	"slices"
	"testing"

	"barbican/api"
	"barbican/flash"
)

// The chapter's words another way: all bytes of all blocks stand in one list, and each write that was asked for is told apart by a plan of the writes to come. What the package answers is held against these.
type model struct {
	bytes  []byte
	dark   bool
	plan   []fate // of the writes to come, up to the one at which power goes; none without a cut
	writes int
}

// fate is what comes of a write.
type fate int

const (
	kept fate = iota
	keptLast
	lostLast
)

func (m *model) size() int { return len(m.bytes) / 512 }

func (m *model) has(n int) bool { return 0 <= n && n < m.size() }

func (m *model) at(n int) []byte { return m.bytes[n*512 : n*512+512] }

func (m *model) read(n int) ([]byte, api.Errno) {
	if m.dark {
		return nil, api.ErrFlashOff
	}
	if !m.has(n) {
		return nil, api.ErrFlashBlock
	}
	return slices.Clone(m.at(n)), api.OK
}

func (m *model) write(n int, b []byte) api.Errno {
	if _, e := m.read(n); e != api.OK {
		return e
	}
	if len(b) != 512 {
		return api.ErrFlashSize
	}
	now := kept
	if len(m.plan) > 0 {
		now, m.plan = m.plan[0], m.plan[1:]
	}
	if now != lostLast {
		copy(m.at(n), b)
		m.writes++
	}
	if now != kept {
		m.dark = true
		return api.ErrFlashOff
	}
	return api.OK
}

func (m *model) cut(writes int, done bool) api.Errno {
	if m.dark {
		return api.ErrFlashOff
	}
	if writes < 0 {
		return api.ErrArg
	}
	m.plan = nil
	if writes > 0 {
		m.plan = append(make([]fate, writes-1), lostLast)
		if done {
			m.plan[writes-1] = keptLast
		}
	}
	return api.OK
}

func (m *model) power() { m.dark, m.plan = false, nil }

func (m *model) blocks() []api.Block {
	var l []api.Block
	for n := range m.size() {
		if bytes.Count(m.at(n), []byte{0}) < 512 {
			l = append(l, api.Block{N: n, Data: m.at(n)})
		}
	}
	return l
}

// fit is whether the numbers together are at most the last of them.
func fit(from, size, limit uint64) bool {
	sum := new(big.Int).SetUint64(from)
	sum.Add(sum, new(big.Int).SetUint64(size))
	return sum.Cmp(new(big.Int).SetUint64(limit)) <= 0
}

func (m *model) span(first, blocks int, from, size uint64) ([]byte, api.Errno) {
	if m.dark {
		return nil, api.ErrFlashOff
	}
	if first < 0 || blocks < 0 || !fit(uint64(first), uint64(blocks), uint64(m.size())) {
		return nil, api.ErrFlashBlock
	}
	if !fit(from, size, 512*uint64(blocks)) || size > 131072 {
		return nil, api.ErrFlashSize
	}
	return slices.Clone(m.bytes[512*first:][:512*blocks][from:][:size]), api.OK
}

// source tells numbers that look like any, the same ones each time.
type source uint64

func (s *source) next() uint64 {
	*s += 0x9e3779b97f4a7c15
	v := uint64(*s)
	v = (v ^ v>>30) * 0xbf58476d1ce4e5b9
	v = (v ^ v>>27) * 0x94d049bb133111eb
	return v ^ v>>31
}

// below is a number below n.
func (s *source) below(n int) int { return int(s.next() % uint64(n)) }

// block is any: often noughts, or but for one byte of them.
func (s *source) block() []byte {
	b := make([]byte, 512)
	switch s.below(4) {
	case 0:
	case 1:
		b[s.below(512)] = 1 << s.below(8)
	default:
		for i := range b {
			b[i] = byte(s.next())
		}
	}
	return b
}

// full is a block that holds one byte throughout.
func full(c byte) []byte { return bytes.Repeat([]byte{c}, 512) }

// made is a flash of so many blocks, and the model of it.
func made(t *testing.T, blocks int, l ...api.Block) (*flash.Flash, *model) {
	t.Helper()
	f, e := flash.New(blocks, l)
	if f == nil || e != api.OK {
		t.Fatal(blocks, f == nil, e)
	}
	m := &model{bytes: make([]byte, 512*blocks)}
	for _, b := range l {
		copy(m.at(b.N), b.Data)
	}
	isModel(t, f, m)
	return f, m
}

// newRefused looks at a flash that may not be.
func newRefused(t *testing.T, blocks int, l []api.Block, want api.Errno) {
	t.Helper()
	if f, e := flash.New(blocks, l); f != nil || e != want {
		t.Fatal(blocks, f != nil, e, want)
	}
}

func sameBlocks(a, b []api.Block) bool {
	return slices.EqualFunc(a, b, func(x, y api.Block) bool { return x.N == y.N && bytes.Equal(x.Data, y.Data) })
}

func readIs(t *testing.T, f *flash.Flash, m *model, n int) {
	t.Helper()
	want, err := m.read(n)
	if b, e := f.Read(n); !bytes.Equal(b, want) || e != err {
		t.Fatalf("block %d: %x, %v, not %x, %v", n, b, e, want, err)
	}
}

func writeIs(t *testing.T, f *flash.Flash, m *model, n int, b []byte) api.Errno {
	t.Helper()
	want := m.write(n, b)
	if e := f.Write(n, b); e != want {
		t.Fatalf("block %d: %v, not %v", n, e, want)
	}
	return want
}

func cutIs(t *testing.T, f *flash.Flash, m *model, writes int, done bool) {
	t.Helper()
	want := m.cut(writes, done)
	if e := f.Cut(writes, done); e != want {
		t.Fatalf("cut at %d, %v: %v, not %v", writes, done, e, want)
	}
}

func spanIs(t *testing.T, f *flash.Flash, m *model, first, blocks int, from, size uint64) api.Errno {
	t.Helper()
	want, err := m.span(first, blocks, from, size)
	if b, e := f.Span(first, blocks, from, size); !bytes.Equal(b, want) || e != err {
		t.Fatalf("%d, %d, %d, %d: %x, %v, not %x, %v", first, blocks, from, size, b, e, want, err)
	}
	return err
}

// statusIs looks at what needs no power.
func statusIs(t *testing.T, f *flash.Flash, m *model) {
	t.Helper()
	if f.Size() != m.size() || f.On() == m.dark || f.Writes() != m.writes {
		t.Fatal(f.Size(), m.size(), f.On(), !m.dark, f.Writes(), m.writes)
	}
	if l := f.Blocks(); !sameBlocks(l, m.blocks()) {
		t.Fatal("other blocks", len(l), len(m.blocks()))
	}
}

// isModel looks at all that a flash tells.
func isModel(t *testing.T, f *flash.Flash, m *model) {
	t.Helper()
	statusIs(t, f, m)
	for n := -1; n <= m.size(); n++ {
		readIs(t, f, m, n)
	}
	all := uint64(len(m.bytes))
	spanIs(t, f, m, 0, m.size(), 0, all)
	spanIs(t, f, m, 0, m.size(), 0, all+1)
	spanIs(t, f, m, 0, m.size()+1, 0, 0)
}
