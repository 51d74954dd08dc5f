package flash_test

import (
	"bytes"
	"math"
	"testing"

	"barbican/api"
)

// P14.2: what a block holds was written to it whole, whichever blocks were written ahead of it or behind it.
func TestWhole(t *testing.T) {
	s := source(20)
	f, m := made(t, 8)
	last := [8][]byte{}
	for n := range last {
		last[n] = full(0)
	}
	for range 2000 {
		n, b := s.below(8), s.block()
		if s.below(9) == 0 {
			cutIs(t, f, m, 1+s.below(3), s.below(2) == 0)
		}
		ahead := f.Writes()
		writeIs(t, f, m, n, b)
		if f.Writes() > ahead {
			last[n] = b
		}
		if !f.On() {
			f.Power()
			m.power()
		}
		for n, want := range last {
			if got, e := f.Read(n); !bytes.Equal(got, want) || e != api.OK {
				t.Fatal(n, e)
			}
		}
	}
}

// Without power nothing is read, written or cut, be the arguments as they may; what the flash holds is told all the same.
func TestDark(t *testing.T) {
	for _, done := range []bool{false, true} {
		f, m := made(t, 3, api.Block{N: 1, Data: full(1)})
		cutIs(t, f, m, 1, done)
		writeIs(t, f, m, 2, full(2))
		for _, n := range []int{math.MinInt, -1, 0, 1, 2, 3, math.MaxInt} {
			for _, b := range [][]byte{nil, full(0), full(9), make([]byte, 511)} {
				if writeIs(t, f, m, n, b) != api.ErrFlashOff {
					t.Fatal(n)
				}
			}
			readIs(t, f, m, n)
			cutIs(t, f, m, n, true)
			cutIs(t, f, m, n, false)
			spanIs(t, f, m, n, 1, 0, 4)
			spanIs(t, f, m, 0, n, 1, 1<<40)
		}
		isModel(t, f, m)
		f.Power()
		m.power()
		isModel(t, f, m)
		// No cut was set in the dark.
		for range 4 {
			if writeIs(t, f, m, 0, full(3)) != api.OK {
				t.Fatal("a cut was kept")
			}
		}
		isModel(t, f, m)
	}
}

// P14.3: every length of a cut, and one more write behind it.
func TestCut(t *testing.T) {
	for writes := 1; writes <= 20; writes++ {
		for _, done := range []bool{false, true} {
			f, m := made(t, 24)
			cutIs(t, f, m, writes, done)
			for n := range 22 {
				want := api.OK
				if n >= writes-1 {
					want = api.ErrFlashOff
				}
				if e := writeIs(t, f, m, n, full(byte(n+1))); e != want {
					t.Fatal(writes, done, n, e)
				}
				statusIs(t, f, m)
			}
			count := writes - 1
			if done {
				count++
			}
			if f.Writes() != count || len(f.Blocks()) != count {
				t.Fatal(writes, done, f.Writes(), len(f.Blocks()))
			}
			f.Power()
			m.power()
			isModel(t, f, m)
		}
	}
}

// The write at which power goes leaves the block as it was, or as it is to be, even where noughts are the one or the other.
func TestCutAt(t *testing.T) {
	for _, was := range [][]byte{full(0), full(1)} {
		for _, is := range [][]byte{full(0), full(1), full(2)} {
			for _, done := range []bool{false, true} {
				f, m := made(t, 2, api.Block{N: 0, Data: was}, api.Block{N: 1, Data: full(8)})
				cutIs(t, f, m, 1, done)
				writeIs(t, f, m, 0, is)
				isModel(t, f, m)
				f.Power()
				m.power()
				isModel(t, f, m)
				want := was
				if done {
					want = is
				}
				if b, e := f.Read(0); !bytes.Equal(b, want) || e != api.OK {
					t.Fatal(e)
				}
			}
		}
	}
}

// The block written may be one and the same.
func TestCutOfOneBlock(t *testing.T) {
	f, m := made(t, 1)
	cutIs(t, f, m, 3, false)
	for n := range 4 {
		writeIs(t, f, m, 0, full(byte(n+1)))
	}
	f.Power()
	m.power()
	if b, e := f.Read(0); !bytes.Equal(b, full(2)) || e != api.OK || f.Writes() != 2 {
		t.Fatal(e, f.Writes())
	}
	isModel(t, f, m)
}

// A cut takes the place of the one ahead of it; one of 0 takes it away, and so does power, be it there already or not.
func TestCutTwice(t *testing.T) {
	for _, next := range []int{0, 5, 1, -1, math.MinInt} {
		for k := range 4 {
			f, m := made(t, 8)
			cutIs(t, f, m, 3, k < 2)
			writeIs(t, f, m, 7, full(1))
			cutIs(t, f, m, next, k%2 == 0)
			for n := range 7 {
				writeIs(t, f, m, n, full(byte(n+2)))
				statusIs(t, f, m)
			}
			f.Power()
			m.power()
			isModel(t, f, m)
		}
	}
	f, m := made(t, 2)
	cutIs(t, f, m, 1, true)
	f.Power()
	m.power()
	for range 3 {
		if writeIs(t, f, m, 0, full(1)) != api.OK {
			t.Fatal("a cut was kept")
		}
	}
	isModel(t, f, m)
}

// Once power went there is no cut any more: it does not go again by itself.
func TestCutOnce(t *testing.T) {
	for _, done := range []bool{false, true} {
		f, m := made(t, 4)
		cutIs(t, f, m, 2, done)
		for range 3 {
			writeIs(t, f, m, 0, full(1))
		}
		f.Power()
		m.power()
		for n := range 12 {
			if e := writeIs(t, f, m, n%4, full(byte(n))); e != api.OK {
				t.Fatal(n, e)
			}
		}
		isModel(t, f, m)
	}
}

// Only writes that would be done count towards a cut.
func TestCutCountsWrites(t *testing.T) {
	f, m := made(t, 3)
	cutIs(t, f, m, 2, true)
	for range 5 {
		readIs(t, f, m, 0)
		spanIs(t, f, m, 0, 3, 0, 1000)
		writeIs(t, f, m, 3, full(1))
		writeIs(t, f, m, -1, full(1))
		writeIs(t, f, m, 0, nil)
		writeIs(t, f, m, 0, full(1)[:511])
		statusIs(t, f, m)
	}
	writeIs(t, f, m, 0, full(0)) // noughts onto noughts are a write, too
	if !f.On() || f.Writes() != 1 {
		t.Fatal(f.On(), f.Writes())
	}
	writeIs(t, f, m, 0, full(0))
	if f.On() || f.Writes() != 2 {
		t.Fatal(f.On(), f.Writes())
	}
	statusIs(t, f, m)
}

// A cut far away is none for now.
func TestCutFarAway(t *testing.T) {
	for _, done := range []bool{false, true} {
		f, _ := made(t, 2)
		if e := f.Cut(math.MaxInt, done); e != api.OK {
			t.Fatal(e)
		}
		for n := range 50 {
			if e := f.Write(n%2, full(byte(n))); e != api.OK || f.Writes() != n+1 {
				t.Fatal(n, e)
			}
		}
	}
}
