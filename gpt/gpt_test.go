package gpt_test

import (
	"testing"

	"barbican/api"
	"barbican/flash"
	"barbican/gpt"
)

// P17.1: G1.

func refused(t *testing.T, f *flash.Flash, want api.Errno) {
	t.Helper()
	if x, e := gpt.Read(f); e != want || !sameTable(x, gpt.Table{}) {
		t.Fatalf("%+v, %d, not %d", x, e, want)
	}
}

func TestReadOfNone(t *testing.T) { refused(t, nil, api.ErrArg) }

// A flash without power is named ahead of what is amiss with its blocks.
func TestReadWithoutPower(t *testing.T) {
	for _, d := range []disk{make(disk, 512), make(disk, 512*9), empty(4), tight(9, 4, api.GUID{1}, part(1, 3, 4))} {
		f := d.flash(t)
		f.Cut(1, false)
		f.Write(0, d.block(0))
		refused(t, f, api.ErrFlashOff)
		f.Power()
		want, why := d.read()
		if x, e := gpt.Read(f); e != why || !sameTable(x, want) {
			t.Fatal(x, e)
		}
	}
}

func TestReadOfFewBlocks(t *testing.T) {
	for blocks := 1; blocks <= 5; blocks++ {
		refused(t, make(disk, 512*blocks).flash(t), api.ErrGptMbr)
		refused(t, empty(blocks).flash(t), api.ErrGptMbr)
	}
	// Of five blocks, one may have a header without fault at the front.
	d := empty(5)
	d.put(1, head{1, 4, 3, 3, api.GUID{1}, 2, 4, 128}, tableOf(4))
	if _, e := d.header(1, 4); e != api.OK {
		t.Fatal(e)
	}
	refused(t, d.flash(t), api.ErrGptMbr)
	refused(t, make(disk, 512*6).flash(t), api.ErrGptMbr)
	refused(t, empty(6).flash(t), api.ErrGptHeader)
	for _, broken := range []int{0, 1, 2, 4, 5} {
		d := tight(6, 4, api.GUID{3}, part(1, 3, 3))
		d.block(broken)[40] ^= byte(broken) // of the block 0: nothing
		x, e := readIs(t, d)
		if e != api.OK || x.Backup != (broken == 1 || broken == 2) || x.Disk != (api.GUID{3}) || len(x.Parts) != 1 || x.Parts[0] != part(1, 3, 3) {
			t.Fatal(broken, x, e)
		}
	}
}

// Each byte of the block 0: those that matter and those that do not.
func TestProtectiveRecord(t *testing.T) {
	whole := tight(9, 4, api.GUID{1}, part(1, 3, 4))
	for at := range 512 {
		for _, change := range []byte{1, 0x80, 0xff, 0x55, 0xee} {
			d := whole.clone()
			d[at] ^= change
			want := api.OK
			if at == 450 || at >= 454 {
				want = api.ErrGptMbr
			}
			if _, e := readIs(t, d); e != want {
				t.Fatal(at, change, e)
			}
		}
	}
	for _, n := range []uint32{0, 7, 9, 10, 0x80000008, 0xffffffff} {
		d := whole.clone()
		order.PutUint32(d[458:], n)
		if _, e := readIs(t, d); e != api.ErrGptMbr {
			t.Fatal(n, e)
		}
	}
	for _, swapped := range []string{"\xaa\x55", "\x55\x55", "\xaa\xaa"} {
		d := whole.clone()
		copy(d[510:], swapped)
		if _, e := readIs(t, d); e != api.ErrGptMbr {
			t.Fatal(e)
		}
	}
}

// Without a protective record no header is looked at.
func TestRecordAheadOfHeaders(t *testing.T) {
	d := tight(9, 4, api.GUID{1}, part(1, 3, 4))
	d[462] = 1
	for _, at := range []int{512, 512 * 8, 512*2 + 5} {
		d[at] ^= 1
		if _, e := readIs(t, d); e != api.ErrGptMbr {
			t.Fatal(e)
		}
	}
}

// Either header alone is enough, and that at the front is taken if it can be.
func TestFrontAndBack(t *testing.T) {
	front := tight(9, 4, api.GUID{1}, part(1, 3, 3))
	back := tight(9, 4, api.GUID{2}, part(2, 4, 4), part(3, 5, 5))
	both := append(front[:512*5:512*5], back[512*5:]...)
	x, e := readIs(t, both)
	if e != api.OK || x.Backup || x.Disk != (api.GUID{1}) || len(x.Parts) != 1 || x.Parts[0] != part(1, 3, 3) {
		t.Fatal(x, e)
	}
	for _, at := range []int{512, 512 + 16, 512*2 + 1} {
		d := both.clone()
		d[at] ^= 1
		x, e := readIs(t, d)
		if e != api.OK || !x.Backup || x.Disk != (api.GUID{2}) || len(x.Parts) != 2 || x.Parts[1] != part(3, 5, 5) {
			t.Fatal(x, e)
		}
	}
	for _, at := range []int{512 * 8, 512*8 + 16, 512*7 + 1} {
		d := both.clone()
		d[at] ^= 1
		if x, e := readIs(t, d); e != api.OK || x.Backup || x.Disk != (api.GUID{1}) {
			t.Fatal(x, e)
		}
	}
}

// Each fault at the front with each at the back: that at the front is told.
func TestFaultOfTheFront(t *testing.T) {
	faults := map[api.Errno]func(d disk, at int){
		api.ErrGptHeader:  func(d disk, at int) { d.block(at)[0] ^= 1 },
		api.ErrGptSum:     func(d disk, at int) { d.block(at)[60] ^= 1 },
		api.ErrGptPlace:   func(d disk, at int) { d.block(at)[84]++; d.mend(at) },
		api.ErrGptEntry:   func(d disk, at int) { d.change(at, 0, part(0, 3, 3)) },
		api.ErrGptOverlap: func(d disk, at int) { d.change(at, 2, part(9, 3, 3)) },
	}
	for want, front := range faults {
		for _, back := range faults {
			d := tight(9, 4, api.GUID{1}, part(1, 3, 3), part(2, 4, 5))
			front(d, 1)
			if x, e := readIs(t, d); e != api.OK || !x.Backup {
				t.Fatal(x, e)
			}
			back(d, d.back())
			if _, e := readIs(t, d); e != want {
				t.Fatal(e, want)
			}
		}
	}
}

// change writes an entry of the table of the header at a block, and mends the sums.
func (d disk) change(at, n int, p api.Part) {
	begin := order.Uint64(d.block(at)[72:])
	copy(d[512*int(begin)+128*n:], entry(p))
	d.mendTable(at)
}

// The chapter's examples.
func TestExamples(t *testing.T) {
	refused(t, make(disk, 512*100).flash(t), api.ErrGptMbr)
	p := part(8, 34, 34)
	l, e := gpt.Blocks(68, gpt.Table{Parts: []api.Part{p}})
	if e != api.OK || len(l) != 5 {
		t.Fatal(len(l), e)
	}
	for i, n := range []int{0, 1, 2, 35, 67} {
		if l[i].N != n {
			t.Fatal(i, l[i].N)
		}
	}
	f, e := flash.New(68, l)
	if e != api.OK {
		t.Fatal(e)
	}
	if x, e := gpt.Read(f); e != api.OK || x.Backup || len(x.Parts) != 1 || x.Parts[0] != p {
		t.Fatal(x, e)
	}
	l[1].Data[0] ^= 0x10
	if e := f.Write(1, l[1].Data); e != api.OK {
		t.Fatal(e)
	}
	if x, e := gpt.Read(f); e != api.OK || !x.Backup || len(x.Parts) != 1 || x.Parts[0] != p {
		t.Fatal(x, e)
	}
}
