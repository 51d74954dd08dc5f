package fuse_test

import (
	"bytes"
	"math"
	"testing"

	"barbican/api"
	"barbican/fuse"
)

// P15.1: B1.

func TestNew(t *testing.T) {
	f, m := made(t)
	isModel(t, f, m)
	if l, all, e := f.Row(0, 64); !bytes.Equal(l, make([]byte, 64)) || all || e != api.OK {
		t.Fatal(l, all, e)
	}
	for i := range 4 {
		if v, e := f.Counter(i); v != 0 || e != api.OK {
			t.Fatal(v, e)
		}
	}
}

func TestExamples(t *testing.T) {
	f, _ := made(t)
	if f.Burn(0, 7) != api.OK || f.Burn(0, 7) != api.ErrFuseBurnt {
		t.Fatal("Burn")
	}
	if v, burnt, e := f.Read(0); v != 7 || !burnt || e != api.OK {
		t.Fatal(v, burnt, e)
	}
	if l, all, e := f.Row(0, 2); !bytes.Equal(l, []byte{7, 0}) || all || e != api.OK {
		t.Fatal(l, all, e)
	}
	if e := f.Burn(64, 1); e != api.ErrFuseIndex {
		t.Fatal(e)
	}
	if f.Raise(1, 5) != api.OK || f.Raise(1, 4) != api.ErrFuseBack || f.Raise(1, 5) != api.OK {
		t.Fatal("Raise")
	}
	if v, e := f.Counter(1); v != 5 || e != api.OK {
		t.Fatal(v, e)
	}
}

// Each value of a byte, 0 too, is burnt once.
func TestBurn(t *testing.T) {
	for v := range 256 {
		f, m := made(t)
		i := v % 64
		if burnIs(t, f, m, i, byte(v)) != api.OK {
			t.Fatal("not burnt")
		}
		isModel(t, f, m)
		for _, again := range []byte{byte(v), byte(v) + 1, 0, 1, 0xff, ^byte(v)} {
			if burnIs(t, f, m, i, again) != api.ErrFuseBurnt {
				t.Fatal("burnt twice")
			}
		}
		isModel(t, f, m)
	}
}

// A byte that is burnt to 0 is another thing than one that is not burnt.
func TestBurnOfNoughts(t *testing.T) {
	f, m := made(t)
	for i := range 64 {
		if _, burnt, _ := f.Read(i); burnt {
			t.Fatal(i)
		}
		burnIs(t, f, m, i, 0)
		if v, burnt, e := f.Read(i); v != 0 || !burnt || e != api.OK {
			t.Fatal(i)
		}
		if _, all, _ := f.Row(0, 64); all != (i == 63) {
			t.Fatal(i)
		}
	}
	isModel(t, f, m)
}

func TestNoSuchByte(t *testing.T) {
	f, m := made(t)
	for range 2 {
		for _, i := range odd() {
			readIs(t, f, m, i)
			if e := burnIs(t, f, m, i, 9); e == api.ErrFuseIndex && 0 <= i && i < 64 {
				t.Fatal(i)
			}
			readIs(t, f, m, i)
		}
		isModel(t, f, m)
	}
	if len(m.burns) != 64 {
		t.Fatal(len(m.burns))
	}
}

// Every row there is, and those that there are not, with none, some and all of the bytes burnt.
func TestRow(t *testing.T) {
	s := source(1)
	f, m := made(t)
	for round := range 5 {
		for i := -2; i <= 66; i++ {
			for n := -2; n <= 66; n++ {
				rowIs(t, f, m, i, n)
			}
		}
		for k := range 64 {
			if round == 3 || s.below(3) == 0 {
				burnIs(t, f, m, k, byte(s.next()))
			}
		}
	}
	if l, all, e := f.Row(0, 64); len(l) != 64 || !all || e != api.OK {
		t.Fatal(l, all, e)
	}
}

// One byte that is not burnt, at each place of a row.
func TestRowBurntButForOne(t *testing.T) {
	for hole := range 64 {
		f, m := made(t)
		for i := range 64 {
			if i != hole {
				burnIs(t, f, m, i, byte(i+1))
			}
		}
		rowIs(t, f, m, 0, 64)
		rowIs(t, f, m, 0, hole)
		rowIs(t, f, m, 0, hole+1)
		rowIs(t, f, m, hole, 1)
		rowIs(t, f, m, hole, 64-hole)
		rowIs(t, f, m, hole+1, 63-hole)
		if _, all, e := f.Row(0, hole); !all || e != api.OK {
			t.Fatal(hole)
		}
		if _, all, e := f.Row(0, hole+1); all || e != api.OK {
			t.Fatal(hole)
		}
	}
}

// Beginning and size together may be more than a number holds.
func TestRowOfOddSizes(t *testing.T) {
	f, m := made(t)
	for i := range 64 {
		burnIs(t, f, m, i, byte(i))
	}
	for _, i := range odd() {
		for _, n := range odd() {
			rowIs(t, f, m, i, n)
		}
	}
	for _, c := range [][2]int{{1, math.MaxInt}, {math.MaxInt, 1}, {math.MaxInt, math.MaxInt}, {math.MinInt, math.MaxInt}, {65, 0}, {64, 1}, {0, 65}, {63, 2}, {-1, 2}, {5, -1}, {math.MinInt, math.MinInt}} {
		if l, all, e := f.Row(c[0], c[1]); len(l) != 0 || all || e != api.ErrFuseIndex {
			t.Fatal(c, l, all, e)
		}
	}
	for i := range 65 {
		if l, all, e := f.Row(i, 0); len(l) != 0 || !all || e != api.OK {
			t.Fatal(i, l, all, e)
		}
	}
}

// P15.1: B2.

func TestRaise(t *testing.T) {
	values := []uint32{0, 1, 2, 5, 255, 256, 1<<16 - 1, 1 << 16, 1<<31 - 1, 1 << 31, 1<<31 + 1, math.MaxUint32 - 1, math.MaxUint32}
	for i := range 4 {
		for _, from := range values {
			for _, to := range values {
				f, m := made(t)
				if raiseIs(t, f, m, i, from) != api.OK {
					t.Fatal(from)
				}
				want := api.OK
				if to < from {
					want = api.ErrFuseBack
				}
				if e := raiseIs(t, f, m, i, to); e != want {
					t.Fatal(from, to, e)
				}
				isModel(t, f, m)
			}
		}
	}
}

func TestNoSuchCounter(t *testing.T) {
	f, m := made(t)
	for range 2 {
		for _, i := range odd() {
			counterIs(t, f, m, i)
			for _, v := range []uint32{0, 7, 3, math.MaxUint32} {
				if e := raiseIs(t, f, m, i, v); e == api.ErrFuseIndex && 0 <= i && i < 4 {
					t.Fatal(i)
				}
			}
			counterIs(t, f, m, i)
		}
		isModel(t, f, m)
	}
	for i := range 4 {
		if v, _ := f.Counter(i); v != math.MaxUint32 {
			t.Fatal(v)
		}
	}
}

// P15.1: B3.

func TestCopy(t *testing.T) {
	s := source(2)
	for range 200 {
		f, m := made(t)
		stir(t, &s, f, m, 40)
		c, o := f.Copy(), m.copy()
		if c == nil || c == f {
			t.Fatal("no copy")
		}
		isModel(t, c, o)
		// The one changes, the other stays; and a copy may be copied.
		stir(t, &s, f, m, 40)
		isModel(t, c, o)
		stir(t, &s, c, o, 40)
		isModel(t, f, m)
		d, p := c.Copy(), o.copy()
		stir(t, &s, c, o, 20)
		isModel(t, d, p)
		isModel(t, c, o)
	}
}

// Each byte and each counter of a copy is its own.
func TestCopyOfEach(t *testing.T) {
	for i := range 64 {
		f, m := made(t)
		c, o := f.Copy(), m.copy()
		burnIs(t, f, m, i, 1)
		isModel(t, c, o)
		burnIs(t, c, o, i, 2)
		raiseIs(t, c, o, i%4, 9)
		isModel(t, f, m)
		isModel(t, c, o)
	}
}

func TestNil(t *testing.T) {
	var f *fuse.Fuses
	if f.Copy() != nil {
		t.Fatal("a copy of none")
	}
	for _, i := range odd() {
		if e := f.Burn(i, 1); e != api.ErrArg {
			t.Fatal(e)
		}
		if v, burnt, e := f.Read(i); v != 0 || burnt || e != api.ErrArg {
			t.Fatal(v, burnt, e)
		}
		for _, n := range []int{-1, 0, 1, 64, math.MaxInt} {
			if l, all, e := f.Row(i, n); len(l) != 0 || all || e != api.ErrArg {
				t.Fatal(l, all, e)
			}
		}
		if v, e := f.Counter(i); v != 0 || e != api.ErrArg {
			t.Fatal(v, e)
		}
		if e := f.Raise(i, 0); e != api.ErrArg {
			t.Fatal(e)
		}
	}
}

// P15.2.

// What was burnt stays and no counter falls, whatever is called.
func TestNoWayBack(t *testing.T) {
	s := source(3)
	for range 50 {
		f, m := made(t)
		var burnt [64]bool
		var bytes [64]byte
		var counters [4]uint32
		for range 300 {
			stir(t, &s, f, m, 1)
			for i := range burnt {
				v, is, e := f.Read(i)
				if burnt[i] && (!is || v != bytes[i]) || e != api.OK {
					t.Fatal(i, v, is, e)
				}
				burnt[i], bytes[i] = is, v
			}
			for i := range counters {
				v, e := f.Counter(i)
				if v < counters[i] || e != api.OK {
					t.Fatal(i, v, e)
				}
				counters[i] = v
			}
		}
		isModel(t, f, m)
	}
}

// stir calls some calls, of any kind.
func stir(t *testing.T, s *source, f *fuse.Fuses, m *model, calls int) {
	t.Helper()
	for range calls {
		switch s.below(6) {
		case 0:
			readIs(t, f, m, s.below(68)-2)
		case 1:
			rowIs(t, f, m, s.below(68)-2, s.below(68)-2)
		case 2:
			raiseIs(t, f, m, s.below(6)-1, uint32(s.next()>>s.below(64)))
		case 3:
			counterIs(t, f, m, s.below(6)-1)
		default:
			burnIs(t, f, m, s.below(68)-2, byte(s.next()))
		}
	}
}

// Rules.

// A call that answers an error changes nothing.
func TestRefusedChangesNothing(t *testing.T) {
	s := source(4)
	f, m := made(t)
	stir(t, &s, f, m, 60)
	for range 300 {
		before := m.copy()
		i, v := s.below(70)-3, byte(s.next())
		if burnIs(t, f, m, i, v) != api.OK {
			isModel(t, f, before)
		}
		if raiseIs(t, f, m, s.below(8)-2, uint32(s.next()>>s.below(64))) != api.OK {
			isModel(t, f, m)
		}
	}
}

// A row is its own memory: all of it may be written, and nothing else changes.
func TestRowsAreNew(t *testing.T) {
	f, m := made(t)
	for i := range 40 {
		burnIs(t, f, m, i, byte(i+1))
	}
	one, _, _ := f.Row(3, 50)
	other, _, _ := f.Row(3, 50)
	none, _, _ := f.Row(3, 0)
	for _, l := range [][]byte{one, none} {
		for i := range l[:cap(l)] {
			l[:cap(l)][i] = 0xee
		}
	}
	want, _, _ := m.row(3, 50)
	if !bytes.Equal(other, want) {
		t.Fatal("two rows share memory")
	}
	isModel(t, f, m)
}

// Two have nothing in common.
func TestTwoFuses(t *testing.T) {
	s := source(5)
	f, m := made(t)
	g, o := made(t)
	for range 100 {
		stir(t, &s, f, m, 3)
		isModel(t, g, o)
		stir(t, &s, g, o, 3)
		isModel(t, f, m)
	}
}

// P2: the same calls answer the same.
func TestSameTwice(t *testing.T) {
	for range 3 {
		s := source(6)
		f, m := made(t)
		stir(t, &s, f, m, 200)
		isModel(t, f, m)
	}
}
