package flash_test

import (
	"bytes"
	"math"
	"slices"
	"testing"

	"barbican/api"
	"barbican/flash"
)

// P14.1: F1.

func TestNew(t *testing.T) {
	s := source(1)
	made(t, 1)
	made(t, 1, api.Block{N: 0, Data: full(1)})
	for range 60 {
		size := 1 + s.below(12)
		var l []api.Block
		for n := range size {
			if s.below(2) == 0 {
				l = append(l, api.Block{N: n, Data: s.block()})
			}
		}
		for i := range l {
			j := s.below(i + 1)
			l[i], l[j] = l[j], l[i]
		}
		made(t, size, l...)
	}
}

func TestNewOfOtherSizes(t *testing.T) {
	bad := []api.Block{{N: -1}, {N: 0, Data: full(1)}, {N: 0}}
	for _, blocks := range []int{math.MinInt, -1 << 20, -513, -1, 0, 1<<20 + 1, 1 << 21, 1 << 32, 1<<32 + 1, math.MaxInt} {
		newRefused(t, blocks, nil, api.ErrArg)
		newRefused(t, blocks, bad, api.ErrArg)
	}
	f, e := flash.New(1<<20, []api.Block{{N: 1<<20 - 1, Data: full(9)}, {N: 0, Data: full(8)}})
	if e != api.OK || f.Size() != 1<<20 {
		t.Fatal(e)
	}
	if b, e := f.Read(1<<20 - 1); !bytes.Equal(b, full(9)) || e != api.OK {
		t.Fatal(e)
	}
	if b, e := f.Read(1 << 20); len(b) != 0 || e != api.ErrFlashBlock {
		t.Fatal(e)
	}
	if l := f.Blocks(); !sameBlocks(l, []api.Block{{N: 0, Data: full(8)}, {N: 1<<20 - 1, Data: full(9)}}) {
		t.Fatal(l)
	}
	newRefused(t, 1<<20, []api.Block{{N: 1 << 20, Data: full(9)}}, api.ErrFlashBlock)
}

func TestNewOfOtherBlocks(t *testing.T) {
	for _, n := range []int{math.MinInt, -2, -1, 3, 4, 1 << 32, math.MaxInt} {
		newRefused(t, 3, []api.Block{{N: n, Data: full(1)}}, api.ErrFlashBlock)
		newRefused(t, 3, []api.Block{{N: n}}, api.ErrFlashBlock)
		newRefused(t, 3, []api.Block{{N: 1, Data: full(1)}, {N: 2, Data: full(1)}, {N: n, Data: full(1)}}, api.ErrFlashBlock)
	}
	for _, size := range []int{0, 1, 511, 513, 1024} {
		newRefused(t, 3, []api.Block{{N: 0, Data: make([]byte, size)}}, api.ErrFlashSize)
		newRefused(t, 3, []api.Block{{N: 1, Data: full(1)}, {N: 2, Data: make([]byte, size)}}, api.ErrFlashSize)
		newRefused(t, 3, []api.Block{{N: 1, Data: full(1)}, {N: 1, Data: make([]byte, size)}}, api.ErrFlashBlock)
	}
}

// A number may not come twice, whatever the blocks hold and however far apart they stand.
func TestNewOfBlocksTwice(t *testing.T) {
	for _, first := range [][]byte{full(0), full(1)} {
		for _, second := range [][]byte{full(0), full(1), nil} {
			newRefused(t, 4, []api.Block{{N: 2, Data: first}, {N: 2, Data: second}}, api.ErrFlashBlock)
			newRefused(t, 4, []api.Block{{N: 2, Data: first}, {N: 0, Data: full(0)}, {N: 1, Data: full(3)}, {N: 2, Data: second}}, api.ErrFlashBlock)
		}
	}
}

// Each block is looked at whole, ahead of the next one.
func TestNewBlockByBlock(t *testing.T) {
	good, short := api.Block{N: 0, Data: full(1)}, api.Block{N: 1, Data: make([]byte, 511)}
	newRefused(t, 2, []api.Block{good, short, good}, api.ErrFlashSize)
	newRefused(t, 2, []api.Block{good, good, short}, api.ErrFlashBlock)
	newRefused(t, 2, []api.Block{short, {N: 2, Data: full(1)}}, api.ErrFlashSize)
	newRefused(t, 2, []api.Block{{N: 2, Data: full(1)}, short}, api.ErrFlashBlock)
	newRefused(t, 2, []api.Block{{N: 2}}, api.ErrFlashBlock)
}

// F2.

func TestReadAndWrite(t *testing.T) {
	s := source(2)
	f, m := made(t, 5, api.Block{N: 1, Data: full(3)})
	for range 200 {
		writeIs(t, f, m, s.below(5), s.block())
		isModel(t, f, m)
	}
}

func TestNoSuchBlock(t *testing.T) {
	f, m := made(t, 3, api.Block{N: 2, Data: full(7)})
	for _, n := range []int{math.MinInt, -1 << 32, -2, -1, 3, 4, 1 << 32, 1<<32 + 1, math.MaxInt} {
		readIs(t, f, m, n)
		for _, b := range [][]byte{nil, full(0), full(1), make([]byte, 511)} {
			if writeIs(t, f, m, n, b) != api.ErrFlashBlock {
				t.Fatal(n)
			}
		}
	}
	isModel(t, f, m)
}

func TestWriteOfOtherSizes(t *testing.T) {
	f, m := made(t, 3, api.Block{N: 1, Data: full(7)})
	for _, size := range []int{0, 1, 256, 511, 513, 1024, 65536 + 512} {
		for n := range 3 {
			if writeIs(t, f, m, n, make([]byte, size)) != api.ErrFlashSize {
				t.Fatal(size)
			}
		}
	}
	isModel(t, f, m)
	// Nor is one of these the write at which power goes.
	cutIs(t, f, m, 1, true)
	writeIs(t, f, m, 1, nil)
	writeIs(t, f, m, 3, full(1))
	isModel(t, f, m)
	writeIs(t, f, m, 0, full(1))
	statusIs(t, f, m)
}

// F4.

// A block that holds noughts again, or was written with noughts, is not told; one with a single bit is.
func TestBlocks(t *testing.T) {
	f, m := made(t, 6, api.Block{N: 5, Data: full(5)}, api.Block{N: 3, Data: full(0)}, api.Block{N: 0, Data: full(1)})
	for at := range 512 {
		b := full(0)
		b[at] = 0x80
		writeIs(t, f, m, 4, b)
		writeIs(t, f, m, 5, full(0))
		statusIs(t, f, m)
		writeIs(t, f, m, 4, full(0))
		writeIs(t, f, m, 5, b)
		statusIs(t, f, m)
	}
	writeIs(t, f, m, 0, full(0))
	writeIs(t, f, m, 5, full(0))
	if l := f.Blocks(); len(l) != 0 {
		t.Fatal(l)
	}
	isModel(t, f, m)
}

// The numbers rise, however many there are and in whatever order they were written.
func TestBlocksRise(t *testing.T) {
	s := source(3)
	f, m := made(t, 300)
	for n := range 300 {
		writeIs(t, f, m, n*211%300, full(byte(1+s.below(255))))
	}
	statusIs(t, f, m)
	for range 10 {
		if !sameBlocks(f.Blocks(), m.blocks()) {
			t.Fatal("other blocks")
		}
	}
}

// Every span there is of a small flash, at its edges.
func TestSpan(t *testing.T) {
	s := source(4)
	f, m := made(t, 4, api.Block{N: 0, Data: s.block()}, api.Block{N: 1, Data: full(2)}, api.Block{N: 2, Data: s.block()}, api.Block{N: 3, Data: s.block()})
	sizes := []uint64{0, 1, 2, 511, 512, 513, 1023, 1024, 1025, 1536, 2047, 2048, 2049, 1 << 32, 1 << 63, math.MaxUint64 - 511, math.MaxUint64 - 1, math.MaxUint64}
	for first := -1; first <= 5; first++ {
		for blocks := -1; blocks <= 5; blocks++ {
			for _, from := range sizes {
				for _, size := range sizes {
					spanIs(t, f, m, first, blocks, from, size)
				}
			}
		}
	}
	for _, n := range []int{math.MinInt, math.MinInt + 1, -1 << 62, 1 << 32, 1 << 54, 1 << 55, 1 << 62, math.MaxInt - 1, math.MaxInt} {
		for _, other := range []int{math.MinInt, -1, 0, 1, 4, 1 << 54, math.MaxInt} {
			for _, from := range []uint64{0, 1, 1 << 63, math.MaxUint64} {
				spanIs(t, f, m, n, other, from, 0)
				spanIs(t, f, m, other, n, from, 0)
				spanIs(t, f, m, n, other, from, math.MaxUint64)
			}
		}
	}
	isModel(t, f, m)
}

func TestSpanAnywhere(t *testing.T) {
	s := source(5)
	var l []api.Block
	for n := range 40 {
		l = append(l, api.Block{N: n, Data: s.block()})
	}
	f, m := made(t, 40, l...)
	for range 3000 {
		first := s.below(41)
		blocks := s.below(41 - first + s.below(2))
		from := s.below(512*blocks + 2)
		spanIs(t, f, m, first, blocks, uint64(from), uint64(s.below(512*blocks-min(from, 512*blocks)+2)))
	}
}

// The greatest size, of a flash that has more.
func TestSpanOfMuch(t *testing.T) {
	s := source(6)
	var l []api.Block
	for n := range 260 {
		l = append(l, api.Block{N: n, Data: s.block()})
	}
	f, m := made(t, 260, l...)
	for _, from := range []uint64{0, 1, 511, 512, 2048} {
		for _, size := range []uint64{131071, 131072, 131073, 132000} {
			spanIs(t, f, m, 0, 260, from, size)
			spanIs(t, f, m, 1, 258, from, size)
		}
	}
	if b, e := f.Span(0, 257, 3, 131072); !bytes.Equal(b, m.bytes[3:131075]) || e != api.OK {
		t.Fatal(e)
	}
	if _, e := f.Span(0, 257, 3, 131073); e != api.ErrFlashSize {
		t.Fatal(e)
	}
}

// All steps of any kind, in any order.
func TestAnyCalls(t *testing.T) {
	s := source(7)
	for range 300 {
		size := 1 + s.below(6)
		f, m := made(t, size)
		for range 60 {
			switch s.below(12) {
			case 0:
				cutIs(t, f, m, s.below(6)-1, s.below(2) == 0)
			case 1:
				f.Power()
				m.power()
			case 2:
				readIs(t, f, m, s.below(size+2)-1)
			case 3:
				spanIs(t, f, m, s.below(size+2)-1, s.below(size+2)-1, uint64(s.below(700)), uint64(s.below(1400)))
			case 4:
				writeIs(t, f, m, s.below(size+2)-1, s.block()[:511+s.below(2)])
			default:
				writeIs(t, f, m, s.below(size), s.block())
			}
			statusIs(t, f, m)
		}
		f.Power()
		m.power()
		isModel(t, f, m)
	}
}

// Rules.

// roomy is a list with the same bytes, and others behind its end.
func roomy(b []byte, behind byte) []byte {
	whole := append(slices.Clone(b), bytes.Repeat([]byte{behind}, 600)...)
	return whole[:len(b)]
}

// stays tells whether a list of roomy is as it was, in all its memory.
func stays(room, b []byte, behind byte) bool {
	want := append(slices.Clone(b), bytes.Repeat([]byte{behind}, 600)...)
	return bytes.Equal(room[:len(want)], want)
}

func TestWhatIsHandedIn(t *testing.T) {
	s := source(8)
	for _, behind := range []byte{0, 1, 0xff} {
		one, two := s.block(), full(6)
		l := []api.Block{{N: 2, Data: roomy(one, behind)}, {N: 0, Data: roomy(two, behind)}, {N: 7, Data: nil}}
		f, m := made(t, 3, l[:2]...)
		if l[0].N != 2 || l[1].N != 0 || l[2].N != 7 || !stays(l[0].Data, one, behind) || !stays(l[1].Data, two, behind) {
			t.Fatal("New writes into what it was handed")
		}
		b := roomy(one, behind)
		writeIs(t, f, m, 1, b)
		writeIs(t, f, m, 1, b[:511])
		writeIs(t, f, m, 2, roomy(full(0), behind))
		if !stays(b, one, behind) {
			t.Fatal("Write writes into what it was handed")
		}
		// What was handed in is not kept.
		for _, held := range [][]byte{b, l[0].Data, l[1].Data} {
			clear(held[:cap(held)])
		}
		l[0], l[1] = api.Block{}, api.Block{}
		isModel(t, f, m)
	}
}

// Every list of an answer is its own: all of its memory may be written, and nothing else changes.
func TestAnswersAreNew(t *testing.T) {
	f, m := made(t, 4, api.Block{N: 1, Data: full(1)}, api.Block{N: 2, Data: full(2)}, api.Block{N: 3, Data: full(3)})
	fill := func(b []byte) {
		for i := range b[:cap(b)] {
			b[:cap(b)][i] = 0xee
		}
	}
	for n := range 4 {
		one, _ := f.Read(n)
		other, _ := f.Read(n)
		fill(one)
		if !bytes.Equal(other, m.at(n)) {
			t.Fatal("two answers share memory")
		}
		isModel(t, f, m)
	}
	one, _ := f.Span(0, 4, 500, 1000)
	other, _ := f.Span(0, 4, 500, 1000)
	whole, _ := f.Span(1, 1, 0, 512)
	fill(one)
	fill(whole)
	if !bytes.Equal(other, m.bytes[500:1500]) {
		t.Fatal("two answers share memory")
	}
	isModel(t, f, m)
	l, again := f.Blocks(), f.Blocks()
	for n := range l {
		fill(l[n].Data)
		for k := n + 1; k < len(l); k++ {
			if !bytes.Equal(l[k].Data, m.at(k+1)) {
				t.Fatal("two lists of an answer share memory")
			}
		}
		l[n] = api.Block{}
	}
	if !sameBlocks(again, m.blocks()) {
		t.Fatal("two answers share memory")
	}
	isModel(t, f, m)
}

// Two flashes have nothing in common.
func TestTwoFlashes(t *testing.T) {
	l := []api.Block{{N: 0, Data: full(1)}}
	f, m := made(t, 2, l...)
	g, o := made(t, 2, l...)
	writeIs(t, f, m, 0, full(2))
	cutIs(t, f, m, 1, false)
	writeIs(t, g, o, 1, full(3))
	isModel(t, g, o)
	isModel(t, f, m)
	writeIs(t, f, m, 1, full(4))
	isModel(t, f, m)
	isModel(t, g, o)
}

func TestNil(t *testing.T) {
	var f *flash.Flash
	f.Power()
	if f.Size() != 0 || f.On() || f.Writes() != 0 || len(f.Blocks()) != 0 {
		t.Fatal("a nil flash is one")
	}
	for _, n := range []int{-1, 0, 1} {
		if b, e := f.Read(n); len(b) != 0 || e != api.ErrArg {
			t.Fatal(e)
		}
		for _, b := range [][]byte{nil, full(1)} {
			if e := f.Write(n, b); e != api.ErrArg {
				t.Fatal(e)
			}
		}
		if e := f.Cut(n, true); e != api.ErrArg {
			t.Fatal(e)
		}
		if b, e := f.Span(n, n, 0, 0); len(b) != 0 || e != api.ErrArg {
			t.Fatal(e)
		}
	}
}

// One that no call gave has no power, and no blocks with it.
func TestNoneThatWasGiven(t *testing.T) {
	f := &flash.Flash{}
	for range 2 {
		if _, e := f.Read(0); f.Write(0, full(1)) != e || e == api.OK || f.Size() != 0 || f.Writes() != 0 || len(f.Blocks()) != 0 {
			t.Fatal(e)
		}
		f.Power()
	}
}

// The chapter's examples.
func TestExamples(t *testing.T) {
	newRefused(t, 0, nil, api.ErrArg)
	newRefused(t, 2, []api.Block{{N: 2, Data: full(1)}}, api.ErrFlashBlock)
	newRefused(t, 2, []api.Block{{N: 0, Data: []byte{1, 2, 3}}}, api.ErrFlashSize)
	f, _ := flash.New(4, nil)
	for n, got := range []api.Errno{f.Cut(2, false), f.Write(0, full('a')), f.Write(1, full('b'))} {
		if got != []api.Errno{api.OK, api.OK, api.ErrFlashOff}[n] {
			t.Fatal(n, got)
		}
	}
	if b, e := f.Read(0); len(b) != 0 || e != api.ErrFlashOff {
		t.Fatal(e)
	}
	f.Power()
	if b, e := f.Read(0); !bytes.Equal(b, full('a')) || e != api.OK {
		t.Fatal(e)
	}
	if b, e := f.Read(1); !bytes.Equal(b, full(0)) || e != api.OK {
		t.Fatal(e)
	}
	if f.Writes() != 1 {
		t.Fatal(f.Writes())
	}
	one, two := full(5), full(9)
	one[510], one[511], two[0], two[1] = 1, 2, 3, 4
	f, _ = flash.New(4, []api.Block{{N: 1, Data: one}, {N: 2, Data: two}})
	if b, e := f.Span(1, 2, 510, 4); !bytes.Equal(b, []byte{1, 2, 3, 4}) || e != api.OK {
		t.Fatal(b, e)
	}
}
