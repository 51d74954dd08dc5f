package gpt_test

import (
	"math"
	"slices"
	"testing"

	"barbican/api"
	"barbican/flash"
	"barbican/gpt"
)

// P17.1: G3.

func TestBlocksOfSizes(t *testing.T) {
	bad := gpt.Table{Parts: make([]api.Part, 129)}
	for _, blocks := range []int{math.MinInt, -1 << 32, -68, -1, 0, 1, 6, 33, 66, 67, 1<<20 + 1, 1 << 21, 1<<32 + 68, math.MaxInt} {
		if blocksAre(t, blocks, gpt.Table{}) != api.ErrArg || blocksAre(t, blocks, bad) != api.ErrArg {
			t.Fatal(blocks)
		}
	}
	for blocks := 68; blocks < 80; blocks++ {
		if blocksAre(t, blocks, gpt.Table{Disk: api.GUID{9}, Parts: []api.Part{part(1, 34, uint64(blocks-34))}}) != api.OK || blocksAre(t, blocks, gpt.Table{}) != api.OK {
			t.Fatal(blocks)
		}
	}
}

// The greatest flash there is, and its last block for partitions.
func TestBlocksOfTheGreatest(t *testing.T) {
	const blocks = 1 << 20
	x := gpt.Table{Disk: api.GUID{4}, Parts: []api.Part{part(1, 34, 99), part(2, 100, blocks-34)}}
	l, e := gpt.Blocks(blocks, x)
	if e != api.OK || !slices.Equal(numbers(l), []int{0, 1, 2, blocks - 33, blocks - 1}) {
		t.Fatal(numbers(l), e)
	}
	f, e := flash.New(blocks, l)
	if e != api.OK {
		t.Fatal(e)
	}
	if got, e := gpt.Read(f); e != api.OK || !sameTable(got, x) {
		t.Fatal(got, e)
	}
	x.Parts[1].Last++
	if l, e := gpt.Blocks(blocks, x); len(l) != 0 || e != api.ErrGptEntry {
		t.Fatal(len(l), e)
	}
}

func numbers(l []api.Block) []int {
	var n []int
	for _, b := range l {
		n = append(n, b.N)
	}
	return n
}

// Which blocks there are, by how many partitions there are: four a block.
func TestBlocksByParts(t *testing.T) {
	for count := 0; count <= 128; count++ {
		x := gpt.Table{Disk: api.GUID{1}}
		for i := range count {
			x.Parts = append(x.Parts, part(byte(i+1), uint64(34+i), uint64(34+i)))
		}
		if blocksAre(t, 200, x) != api.OK {
			t.Fatal(count)
		}
		want := []int{0, 1}
		for i := range (count + 3) / 4 {
			want = append(want, 2+i)
		}
		for i := range (count + 3) / 4 {
			want = append(want, 167+i)
		}
		l, _ := gpt.Blocks(200, x)
		if !slices.Equal(numbers(l), append(want, 199)) {
			t.Fatal(count, numbers(l))
		}
	}
}

func TestBlocksOfManyParts(t *testing.T) {
	var l []api.Part
	for i := range 129 {
		l = append(l, part(byte(i+1), uint64(34+i), uint64(34+i)))
	}
	if blocksAre(t, 300, gpt.Table{Parts: l[:128]}) != api.OK || blocksAre(t, 300, gpt.Table{Parts: l}) != api.ErrGptEntry {
		t.Fatal("128 or 129")
	}
	// That they are too many is told ahead of what is amiss with one of them.
	l[1].First, l[1].Last = 34, 34
	if blocksAre(t, 300, gpt.Table{Parts: l[:128]}) != api.ErrGptOverlap || blocksAre(t, 300, gpt.Table{Parts: l}) != api.ErrGptEntry {
		t.Fatal("128 or 129")
	}
	if blocksAre(t, 300, gpt.Table{Parts: make([]api.Part, 1000)}) != api.ErrGptEntry {
		t.Fatal("1000")
	}
}

// Each first and last block, at the edges.
func TestBlocksOfPlaces(t *testing.T) {
	good := 0
	for _, first := range oddNumbers(72) {
		for _, last := range oddNumbers(72) {
			if blocksAre(t, 72, gpt.Table{Parts: []api.Part{part(1, first, last)}}) == api.OK {
				good++
			}
		}
	}
	if good != 15 {
		t.Fatal(good)
	}
}

// What is amiss with partitions, one by one.
func TestBlocksRefuses(t *testing.T) {
	typeless, nameless := part(1, 34, 34), part(0, 34, 34)
	typeless.Type = api.GUID{}
	for i, c := range []struct {
		l    []api.Part
		want api.Errno
	}{
		{[]api.Part{{}}, api.ErrGptEntry}, // an unused one may not be handed in
		{[]api.Part{part(1, 34, 34), {}}, api.ErrGptEntry},
		{[]api.Part{typeless}, api.ErrGptEntry},
		{[]api.Part{nameless}, api.ErrGptEntry},
		{[]api.Part{part(1, 34, 34), part(1, 35, 35)}, api.ErrGptEntry},
		{[]api.Part{part(1, 34, 34), part(2, 35, 35), part(1, 36, 36)}, api.ErrGptEntry},
		{[]api.Part{part(1, 34, 34), part(1, 34, 34)}, api.ErrGptEntry},
		{[]api.Part{part(1, 34, 34), part(2, 34, 67)}, api.ErrGptEntry},
		{[]api.Part{part(1, 34, 34), part(2, 33, 34)}, api.ErrGptEntry},
		{[]api.Part{part(1, 34, 35), part(2, 35, 34)}, api.ErrGptEntry},
		{[]api.Part{part(1, 34, 34), part(2, 34, 66)}, api.ErrGptOverlap},
		{[]api.Part{part(1, 40, 50), part(2, 45, 45)}, api.ErrGptOverlap},
		{[]api.Part{part(1, 45, 45), part(2, 40, 50)}, api.ErrGptOverlap},
		{[]api.Part{part(1, 40, 45), part(2, 60, 60), part(3, 39, 40)}, api.ErrGptOverlap},
		{[]api.Part{part(1, 40, 45), part(2, 60, 60), part(3, 45, 46), nameless}, api.ErrGptOverlap},
		{[]api.Part{part(1, 40, 45), nameless, part(3, 45, 46)}, api.ErrGptEntry},
		{[]api.Part{part(1, 40, 45), typeless, part(3, 45, 46)}, api.ErrGptEntry},
		{[]api.Part{part(1, 40, 45), part(2, 46, 66), part(3, 34, 39)}, api.OK},
	} {
		if e := blocksAre(t, 100, gpt.Table{Parts: c.l}); e != c.want {
			t.Fatal(i, e)
		}
	}
}

// Whether the backup was read counts for nothing.
func TestBlocksOfBackup(t *testing.T) {
	s := source(4)
	x := gpt.Table{Disk: s.guid(), Parts: s.parts(9, 34, 66)}
	one, _ := gpt.Blocks(100, x)
	x.Backup = true
	if two, e := gpt.Blocks(100, x); e != api.OK || !sameBlocks(one, two) || blocksAre(t, 100, x) != api.OK {
		t.Fatal(e)
	}
}

// Any tables, some of them spoilt.
func TestBlocksOfAny(t *testing.T) {
	s := source(5)
	seen := map[api.Errno]int{}
	for range 1500 {
		blocks := 68 + s.below(100)
		x := gpt.Table{Disk: s.guid(), Parts: s.parts(s.below(130), 34, uint64(blocks-34))}
		if len(x.Parts) > 0 && s.below(2) == 0 {
			spoilPart(&s, blocks, x.Parts)
		}
		seen[blocksAre(t, blocks, x)]++
	}
	if seen[api.OK] < 500 || seen[api.ErrGptEntry] < 100 || seen[api.ErrGptOverlap] < 50 {
		t.Fatal(seen)
	}
}

func spoilPart(s *source, blocks int, l []api.Part) {
	p := &l[s.below(len(l))]
	switch s.below(8) {
	case 0:
		p.Type = api.GUID{}
	case 1:
		p.ID = api.GUID{}
	case 2:
		p.ID = l[s.below(len(l))].ID
	case 3:
		odd := oddNumbers(blocks)
		p.Last = odd[s.below(len(odd))]
	default:
		p.First = uint64(s.below(blocks))
		p.Last = p.First + uint64(s.below(4))
	}
}

// P17.2.

// writtenOf is a flash that holds Blocks of a table.
func writtenOf(t *testing.T, blocks int, x gpt.Table) *flash.Flash {
	t.Helper()
	l, e := gpt.Blocks(blocks, x)
	if e != api.OK {
		t.Fatal(e)
	}
	f, e := flash.New(blocks, l)
	if e != api.OK {
		t.Fatal(e)
	}
	return f
}

func isTable(t *testing.T, f *flash.Flash, x gpt.Table) {
	t.Helper()
	if got, e := gpt.Read(f); e != api.OK || !sameTable(got, x) {
		t.Fatalf("%+v, %d, not %+v", got, e, x)
	}
}

func TestBack(t *testing.T) {
	s := source(6)
	most := 0
	for n := range 120 {
		blocks := 68 + s.below(300)
		x := gpt.Table{Disk: s.guid(), Parts: s.parts(s.below(129), 34, uint64(blocks-34))}
		most = max(most, len(x.Parts))
		if n == 0 {
			x.Disk = api.GUID{} // it may be noughts
		}
		f := writtenOf(t, blocks, x)
		isTable(t, f, x)
		// What partitions hold does not matter.
		for _, p := range x.Parts {
			if e := f.Write(int(p.First), s.block()); e != api.OK {
				t.Fatal(e)
			}
		}
		isTable(t, f, x)
	}
	if most < 110 {
		t.Fatal(most)
	}
	isTable(t, writtenOf(t, 68, gpt.Table{}), gpt.Table{})
	x := gpt.Table{Parts: s.parts(1000, 34, 400)[:128]}
	isTable(t, writtenOf(t, 434, x), x)
	x = gpt.Table{Parts: []api.Part{part(1, 34, 34)}, Backup: true}
	f := writtenOf(t, 68, x)
	x.Backup = false
	isTable(t, f, x)
}

func (s *source) block() []byte {
	b := make([]byte, 512)
	for i := range b {
		b[i] = byte(s.next())
	}
	return b
}

// P17.3.

// Bytes of both tables and headers, one by one.
func TestTwice(t *testing.T) {
	s := source(7)
	const blocks = 150
	for _, count := range []int{0, 5, 128} {
		x := gpt.Table{Disk: s.guid(), Parts: s.parts(count, 34, blocks-34)}
		f := writtenOf(t, blocks, x)
		backup := x
		backup.Backup = true
		for _, begin := range []int{1, blocks - 33} {
			want := x
			if begin == 1 {
				want = backup
			}
			for at := s.below(7); at < 33*512; at += 1 + s.below(23) {
				changedIs(t, f, begin+at/512, at%512, byte(1+s.below(255)), want)
			}
		}
		for at := range 512 {
			changedIs(t, f, 1, at, byte(1+s.below(255)), backup)
			changedIs(t, f, blocks-1, at, byte(1+s.below(255)), x)
		}
		isTable(t, f, x)
	}
}

// changedIs tells of a flash of which one byte is changed, and changes it back.
func changedIs(t *testing.T, f *flash.Flash, n, at int, change byte, want gpt.Table) {
	t.Helper()
	b, _ := f.Read(n)
	b[at] ^= change
	if e := f.Write(n, b); e != api.OK {
		t.Fatal(e)
	}
	if got, e := gpt.Read(f); e != api.OK || !sameTable(got, want) {
		t.Fatalf("block %d, byte %d: %+v, %d", n, at, got, e)
	}
	b[at] ^= change
	if e := f.Write(n, b); e != api.OK {
		t.Fatal(e)
	}
}

// P17.4.

func TestApart(t *testing.T) {
	s := source(8)
	told := 0
	for range 8000 {
		d := tight(24, 8, s.guid(), s.parts(8, 4, 20)...)
		for range 1 + s.below(3) {
			spoil(&s, d)
		}
		x, e := gpt.Read(d.flash(t))
		if e != api.OK && len(x.Parts) != 0 {
			t.Fatal(x, e)
		}
		var has [24]bool
		for _, p := range x.Parts {
			if p.First > p.Last || p.Last >= 24 {
				t.Fatal(x)
			}
			for n := p.First; n <= p.Last; n++ {
				if has[n] || n < 2 || n > 22 {
					t.Fatal(x)
				}
				has[n] = true
				told++
			}
		}
	}
	if told < 10000 {
		t.Fatal(told)
	}
}
