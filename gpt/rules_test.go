package gpt_test

import (
	"bytes"
	"slices"
	"testing"

	"barbican/api"
	"barbican/gpt"
)

// Rule 3: neither what is read nor what is refused changes a flash.
func TestFlashStays(t *testing.T) {
	s := source(9)
	for range 200 {
		d := tight(24, 8, s.guid(), s.parts(8, 4, 20)...)
		for range s.below(3) {
			spoil(&s, d)
		}
		f := d.flash(t)
		f.Cut(1, true)
		gpt.Read(f)
		if !sameBlocks(f.Blocks(), d.blocks()) || !f.On() || f.Writes() != 0 {
			t.Fatal("changed")
		}
		if e := f.Write(0, d.block(0)); e != api.ErrFlashOff || f.On() {
			t.Fatal("the cut is gone")
		}
	}
}

// Rule 4: what is handed in stays as it is, what lies behind it too.
func TestTableStays(t *testing.T) {
	s := source(10)
	l := s.parts(40, 34, 166)
	spare := slices.Clone(l)
	x := gpt.Table{Disk: s.guid(), Parts: l[:20]}
	same := gpt.Table{Disk: x.Disk, Parts: slices.Clone(x.Parts)}
	one, e := gpt.Blocks(200, x)
	if e != api.OK {
		t.Fatal(e)
	}
	x.Find(l[3].Type)
	x.Named(l[3].ID)
	if !sameTable(x, same) || !slices.Equal(l, spare) {
		t.Fatal("written into")
	}
	// What is behind the list does not matter.
	clear(l[20:])
	if two, e := gpt.Blocks(200, x); e != api.OK || !sameBlocks(one, two) {
		t.Fatal(e)
	}
	// Nor is it kept.
	clear(l)
	if two, e := gpt.Blocks(200, same); e != api.OK || !sameBlocks(one, two) {
		t.Fatal(e)
	}
}

// Rule 4: what is answered is memory of its own.
func TestBlocksAreTheirOwn(t *testing.T) {
	s := source(11)
	x := gpt.Table{Disk: s.guid(), Parts: s.parts(128, 34, 266)}
	want, _ := gpt.Blocks(300, x)
	for i := range want {
		l, e := gpt.Blocks(300, x)
		if e != api.OK {
			t.Fatal(e)
		}
		b := l[i].Data[:cap(l[i].Data)]
		for at := range b {
			b[at] = ^b[at]
		}
		for k := range l {
			if len(l[k].Data) != 512 || k != i && !bytes.Equal(l[k].Data, want[k].Data) {
				t.Fatal(i, k)
			}
		}
	}
}

func TestReadIsItsOwn(t *testing.T) {
	s := source(12)
	f := laid(200, gpt.Table{Disk: s.guid(), Parts: s.parts(128, 34, 166)}).flash(t)
	one, _ := gpt.Read(f)
	two, _ := gpt.Read(f)
	if !sameTable(one, two) || len(one.Parts) < 20 {
		t.Fatal(len(one.Parts))
	}
	clear(one.Parts[:cap(one.Parts)])
	if three, e := gpt.Read(f); e != api.OK || !sameTable(three, two) {
		t.Fatal(e)
	}
}

// P2: the same again, with other calls between them.
func TestSameTwice(t *testing.T) {
	for range 2 {
		s := source(13)
		for range 50 {
			count := 1 + s.below(9)
			d := tight(30, count, s.guid(), s.parts(count, 6, 24)...)
			spoil(&s, d)
			f := d.flash(t)
			one, e := gpt.Read(f)
			readIs(t, tight(30, count, s.guid(), s.parts(count, 6, 24)...))
			if two, again := gpt.Read(f); !sameTable(one, two) || e != again {
				t.Fatal(e, again)
			}
		}
	}
}
