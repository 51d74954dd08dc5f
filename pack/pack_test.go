package pack_test

import (
	"bytes"
	"crypto/mldsa"
	"slices"
	"testing"

	"barbican/api"
	"barbican/pack"
	"barbican/ring"
)

func bytesAre(t *testing.T, b []byte, e api.Errno, want []byte) {
	t.Helper()
	if e != api.OK || !bytes.Equal(b, want) {
		t.Fatalf("%x, %v, not %x", b, e, want)
	}
}

func bytesRefused(t *testing.T, b []byte, e, want api.Errno) {
	t.Helper()
	if len(b) != 0 || e != want {
		t.Fatalf("%x, %v, not %v", b, e, want)
	}
}

func polyIs(t *testing.T, p api.Poly, e api.Errno, want api.Poly) {
	t.Helper()
	if e != api.OK || p != want {
		t.Fatalf("%v, %v, not %v", p, e, want)
	}
}

func polyRefused(t *testing.T, p api.Poly, e, want api.Errno) {
	t.Helper()
	if p != (api.Poly{}) || e != want {
		t.Fatalf("%v, %v, not %v", p, e, want)
	}
}

// P9.1: Up.

// upAndBack holds Up against the chapter's words, and FromUp against what Up was made of.
func upAndBack(t *testing.T, p api.Poly, bits int) {
	t.Helper()
	b, e := pack.Up(p, bits)
	bytesAre(t, b, e, laid(coefficients(p), bits))
	q, e := pack.FromUp(b, bits)
	polyIs(t, q, e, p)
}

func TestUp(t *testing.T) {
	s := source(1)
	for bits := 1; bits <= 23; bits++ {
		most := greatest(bits)
		for _, c := range []int32{0, 1, most / 2, most - 1, most} {
			upAndBack(t, all(c), bits)
		}
		for i := range 256 {
			upAndBack(t, with(api.Poly{}, i, most), bits)
			upAndBack(t, with(all(most), i, 0), bits)
		}
		for range 20 {
			upAndBack(t, s.between(0, int64(most)), bits)
		}
	}
}

func TestUpOutOfRange(t *testing.T) {
	s := source(2)
	for bits := 1; bits <= 23; bits++ {
		good := s.between(0, int64(greatest(bits)))
		bad := append(noNumbers(), greatest(bits)+1)
		for _, c := range bad {
			for _, i := range []int{0, 1, 7, 8, 127, 128, 254, 255} {
				b, e := pack.Up(with(good, i, c), bits)
				bytesRefused(t, b, e, api.ErrPackRange)
			}
			b, e := pack.Up(all(c), bits)
			bytesRefused(t, b, e, api.ErrPackRange)
		}
		for i := range 256 {
			b, e := pack.Up(with(good, i, greatest(bits)+1), bits)
			bytesRefused(t, b, e, api.ErrPackRange)
			b, e = pack.Up(with(api.Poly{}, i, -1), bits)
			bytesRefused(t, b, e, api.ErrPackRange)
		}
	}
}

func TestUpBits(t *testing.T) {
	for _, bits := range noBits(23) {
		for _, p := range []api.Poly{{}, all(1), all(-1), all(modulus)} {
			b, e := pack.Up(p, bits)
			bytesRefused(t, b, e, api.ErrArg)
		}
		for _, n := range []int{0, 1, 31, 32, 768} {
			p, e := pack.FromUp(make([]byte, n), bits)
			polyRefused(t, p, e, api.ErrArg)
		}
	}
}

// P9.1: FromUp.

func TestFromUp(t *testing.T) {
	s := source(3)
	for bits := 1; bits <= 22; bits++ {
		for _, b := range [][]byte{make([]byte, 32*bits), bytes.Repeat([]byte{0xff}, 32*bits), s.bytes(32 * bits), s.bytes(32 * bits)} {
			var want api.Poly
			for i, n := range numbersOf(b, bits) {
				want[i] = int32(n)
			}
			p, e := pack.FromUp(b, bits)
			polyIs(t, p, e, want)
			again, e := pack.Up(p, bits)
			bytesAre(t, again, e, b)
		}
	}
}

func TestFromUpRange(t *testing.T) {
	s := source(4)
	good := coefficients(s.between(0, modulus-1))
	for i := range 256 {
		for n := int64(modulus - 2); n < modulus+3; n++ {
			l := good
			l[i] = n
			p, e := pack.FromUp(laid(l, 23), 23)
			if n >= modulus {
				polyRefused(t, p, e, api.ErrPackRange)
			} else if e != api.OK || int64(p[i]) != n {
				t.Fatal(i, n, p, e)
			}
		}
		l := good
		l[i] = 1<<23 - 1
		p, e := pack.FromUp(laid(l, 23), 23)
		polyRefused(t, p, e, api.ErrPackRange)
	}
}

func TestFromUpForm(t *testing.T) {
	for bits := 1; bits <= 23; bits++ {
		for _, n := range wrongSizes(32 * bits) {
			// Bytes whose numbers would be too great, too: the form is named first.
			for _, x := range []byte{0, 0xff} {
				p, e := pack.FromUp(bytes.Repeat([]byte{x}, n), bits)
				polyRefused(t, p, e, api.ErrPackForm)
			}
		}
	}
}

// P9.2: Down.

// lowest and highest are the ends of the centred coefficients that Down lays.
func lowest(top int32, bits int) int64  { return max(int64(top)-(1<<bits-1), -half) }
func highest(top int32, bits int) int64 { return min(int64(top), half) }

func TestDown(t *testing.T) {
	s := source(5)
	for bits := 1; bits <= 22; bits++ {
		for _, top := range append(tops(), int32(s.from(0, 1<<22)), int32(1)<<(bits-1)) {
			low, high := lowest(top, bits), highest(top, bits)
			if low > high {
				continue
			}
			for _, p := range []api.Poly{all(rest(low)), all(rest(high)), s.between(low, high), s.between(low, high)} {
				b, e := pack.Down(p, top, bits)
				bytesAre(t, b, e, laid(downFrom(p, top), bits))
				q, e := pack.FromDown(b, top, bits)
				polyIs(t, q, e, p)
			}
		}
	}
}

func TestDownOutOfRange(t *testing.T) {
	s := source(6)
	for bits := 1; bits <= 22; bits++ {
		for _, top := range tops() {
			low, high := lowest(top, bits), highest(top, bits)
			for _, c := range noNumbers() {
				b, e := pack.Down(all(c), top, bits)
				bytesRefused(t, b, e, api.ErrPackRange)
			}
			if low > high {
				for _, c := range []int32{0, 1, half, half + 1, modulus - 1} {
					b, e := pack.Down(all(c), top, bits)
					bytesRefused(t, b, e, api.ErrPackRange)
				}
				continue
			}
			good := s.between(low, high)
			bad := []int64{low - 1, high + 1}
			for _, c := range bad {
				if c < -half || c > half {
					continue
				}
				for _, i := range []int{0, 1, 100, 254, 255} {
					b, e := pack.Down(with(good, i, rest(c)), top, bits)
					bytesRefused(t, b, e, api.ErrPackRange)
				}
			}
			for _, c := range noNumbers() {
				for _, i := range []int{0, 1, 100, 254, 255} {
					b, e := pack.Down(with(good, i, c), top, bits)
					bytesRefused(t, b, e, api.ErrPackRange)
				}
			}
		}
	}
}

func TestDownOutOfRangeAtEachPlace(t *testing.T) {
	for i := range 256 {
		for _, c := range []int32{4, modulus - 5, half, half + 1, -1, modulus} {
			b, e := pack.Down(with(all(3), i, c), 3, 3)
			bytesRefused(t, b, e, api.ErrPackRange)
		}
		for _, c := range []int32{0, 3, modulus - 1, modulus - 4} {
			p := with(all(2), i, c)
			b, e := pack.Down(p, 3, 3)
			bytesAre(t, b, e, laid(downFrom(p, 3), 3))
		}
	}
}

func TestDownArguments(t *testing.T) {
	bad := [][2]int{}
	for _, bits := range noBits(22) {
		bad = append(bad, [2]int{0, bits}, [2]int{1 << 22, bits})
	}
	for _, top := range noTops() {
		for _, bits := range []int{0, 1, 2, 20, 22, 23} {
			bad = append(bad, [2]int{int(top), bits})
		}
	}
	for _, c := range bad {
		for _, p := range []api.Poly{{}, all(1), all(-1), all(modulus)} {
			b, e := pack.Down(p, int32(c[0]), c[1])
			bytesRefused(t, b, e, api.ErrArg)
		}
		for _, n := range []int{0, 1, 32, 64, 640, 704, 736} {
			p, e := pack.FromDown(make([]byte, n), int32(c[0]), c[1])
			polyRefused(t, p, e, api.ErrArg)
		}
	}
}

// P9.2: FromDown.

func TestFromDown(t *testing.T) {
	s := source(7)
	for bits := 1; bits <= 22; bits++ {
		for _, top := range append(tops(), int32(s.from(0, half))) {
			for _, b := range [][]byte{make([]byte, 32*bits), bytes.Repeat([]byte{0xff}, 32*bits), s.bytes(32 * bits), s.bytes(32 * bits)} {
				var want api.Poly
				least, most := int64(top), int64(top)-1<<23
				for i, n := range numbersOf(b, bits) {
					c := int64(top) - n
					want[i] = rest(c)
					least, most = min(least, c), max(most, c)
				}
				p, e := pack.FromDown(b, top, bits)
				if least < -half {
					polyRefused(t, p, e, api.ErrPackRange)
					continue
				}
				polyIs(t, p, e, want)
				if most > half {
					continue
				}
				again, e := pack.Down(p, top, bits)
				bytesAre(t, again, e, b)
			}
		}
	}
}

func TestFromDownRange(t *testing.T) {
	for i := range 256 {
		for top := int32(0); top < 3; top++ {
			for d := int64(-2); d <= 2; d++ {
				var l [256]int64
				l[i] = int64(top) + half + d
				p, e := pack.FromDown(laid(l, 22), top, 22)
				if d > 0 {
					polyRefused(t, p, e, api.ErrPackRange)
				} else {
					polyIs(t, p, e, with(all(top), i, rest(-half-d)))
				}
			}
		}
	}
}

// The chapter refuses what is too far below 0 alone: a difference that is too great to be a centred coefficient stands as it is.
func TestFromDownAbove(t *testing.T) {
	for _, top := range []int32{half + 1, half + 2, 1<<22 - 1, 1 << 22} {
		p, e := pack.FromDown(make([]byte, 32), top, 1)
		polyIs(t, p, e, all(top))
		p, e = pack.FromDown(bytes.Repeat([]byte{0xff}, 32), top, 1)
		polyIs(t, p, e, all(top-1))
	}
}

func TestFromDownForm(t *testing.T) {
	for bits := 1; bits <= 22; bits++ {
		for _, n := range wrongSizes(32 * bits) {
			for _, x := range []byte{0, 0xff} {
				p, e := pack.FromDown(bytes.Repeat([]byte{x}, n), 0, bits)
				polyRefused(t, p, e, api.ErrPackForm)
			}
		}
	}
}

// P9.3.

func hintsRefused(t *testing.T, b []byte, want api.Errno) {
	t.Helper()
	h, e := pack.FromHints(b)
	if h != ([6]api.Poly{}) || e != want {
		t.Fatalf("%x: %v", b, e)
	}
}

func hintsAndBack(t *testing.T, h [6]api.Poly) {
	t.Helper()
	b, e := pack.Hints(h)
	bytesAre(t, b, e, hintBytes(h))
	g, e := pack.FromHints(b)
	if g != h || e != api.OK {
		t.Fatal(b, e)
	}
}

// someHints are any n hints; those of one polynomial alone, if only is not below 0.
func (s *source) someHints(n, only int) [6]api.Poly {
	var h [6]api.Poly
	for n > 0 {
		r := int(s.next() % 6)
		if only >= 0 {
			r = only
		}
		if i := s.next() % 256; h[r][i] == 0 {
			h[r][i] = 1
			n--
		}
	}
	return h
}

func TestHints(t *testing.T) {
	s := source(8)
	for n := 0; n <= 55; n++ {
		for only := -1; only < 6; only++ {
			hintsAndBack(t, s.someHints(n, only))
		}
	}
	for r := range 6 {
		for i := range 256 {
			var h [6]api.Poly
			h[r][i] = 1
			hintsAndBack(t, h)
		}
	}
}

func TestTooManyHints(t *testing.T) {
	s := source(9)
	for _, n := range []int{56, 57, 100, 255, 256} {
		for only := -1; only < 6; only++ {
			b, e := pack.Hints(s.someHints(n, only))
			bytesRefused(t, b, e, api.ErrPackHint)
		}
	}
	var ones [6]api.Poly
	for i := range ones {
		ones[i] = all(1)
	}
	b, e := pack.Hints(ones)
	bytesRefused(t, b, e, api.ErrPackHint)
}

func TestNoHints(t *testing.T) {
	s := source(10)
	for _, c := range append(noNumbers(), 2, 3, 256, 257, 1<<16, 1<<16+1, modulus-1, modulus+1) {
		for r := range 6 {
			for _, i := range []int{0, 1, 100, 255} {
				for _, n := range []int{0, 3, 55} {
					h := s.someHints(n, -1)
					h[r][i] = c
					b, e := pack.Hints(h)
					bytesRefused(t, b, e, api.ErrPackHint)
				}
			}
		}
	}
}

func TestFromHintsForm(t *testing.T) {
	for _, n := range append(wrongSizes(61), 55, 60, 62, 64) {
		hintsRefused(t, make([]byte, n), api.ErrPackForm)
		hintsRefused(t, bytes.Repeat([]byte{0xff}, n), api.ErrPackForm)
	}
	hintsRefused(t, nil, api.ErrPackForm)
}

// bytesWith are hints' bytes: places, and the ends.
func bytesWith(places []byte, ends ...byte) []byte {
	return slices.Concat(places, make([]byte, 55-len(places)), ends)
}

// upFrom are n bytes, each one more than the one ahead of it.
func upFrom(first byte, n int) []byte {
	b := make([]byte, n)
	for i := range b {
		b[i] = first + byte(i)
	}
	return b
}

func TestFromHintsThatAreNone(t *testing.T) {
	for _, b := range [][]byte{
		bytesWith([]byte{1}, 0, 0, 0, 0, 0, 0),               // something behind the places
		bytesWith([]byte{0, 0, 9}, 1, 1, 1, 1, 1, 1),         // and behind a nought
		bytesWith([]byte{1, 2, 3}, 2, 2, 2, 2, 2, 2),         // a place too many
		bytesWith([]byte{1, 1}, 2, 2, 2, 2, 2, 2),            // one twice
		bytesWith([]byte{0, 0}, 2, 2, 2, 2, 2, 2),            // also the first
		bytesWith([]byte{0, 0}, 0, 0, 0, 0, 0, 2),            // in the last polynomial
		bytesWith([]byte{2, 1}, 2, 2, 2, 2, 2, 2),            // one that falls
		bytesWith([]byte{7, 8, 4, 3}, 2, 4, 4, 4, 4, 4),      // in the second one
		bytesWith([]byte{1, 2}, 2, 1, 2, 2, 2, 2),            // an end that falls
		bytesWith([]byte{1, 2}, 2, 2, 2, 2, 2, 1),            // the last one
		bytesWith([]byte{1, 2}, 2, 2, 2, 2, 2, 0),            // to 0
		bytesWith(upFrom(0, 55), 0, 0, 0, 0, 0, 56),          // an end too great
		bytesWith(upFrom(0, 55), 55, 55, 55, 55, 55, 56),     //
		bytesWith(upFrom(0, 55), 56, 55, 55, 55, 55, 55),     //
		bytesWith(upFrom(0, 55), 55, 55, 255, 55, 55, 55),    //
		bytesWith(upFrom(0, 55), 61, 61, 61, 61, 61, 61),     // that takes the ends in
		bytesWith(upFrom(0, 55), 0, 0, 0, 0, 0, 62),          //
		bytesWith(upFrom(0, 55), 255, 255, 255, 255, 255, 0), //
		bytesWith(upFrom(0, 55), 54, 54, 54, 54, 54, 54),     //
		bytesWith(upFrom(201, 55), 55, 55, 55, 55, 55, 0),    //
		bytes.Repeat([]byte{0xff}, 61),                       //
		bytes.Repeat([]byte{1}, 61),                          //
	} {
		hintsRefused(t, b, api.ErrPackHint)
	}
}

// The same place may stand in two polynomials, and a smaller one behind a greater one then.
func TestFromHintsOfTwo(t *testing.T) {
	for _, c := range []struct {
		b    []byte
		want [6][]int
	}{
		{bytesWith([]byte{5, 5}, 1, 2, 2, 2, 2, 2), [6][]int{{5}, {5}}},
		{bytesWith([]byte{255, 0}, 1, 1, 1, 1, 1, 2), [6][]int{0: {255}, 5: {0}}},
		{bytesWith([]byte{0}, 0, 0, 1, 1, 1, 1), [6][]int{2: {0}}},
		{bytesWith([]byte{3, 4, 1, 2, 0}, 2, 2, 4, 4, 5, 5), [6][]int{0: {3, 4}, 2: {1, 2}, 4: {0}}},
	} {
		var want [6]api.Poly
		for i, l := range c.want {
			for _, place := range l {
				want[i][place] = 1
			}
		}
		h, e := pack.FromHints(c.b)
		if h != want || e != api.OK {
			t.Error(c.b, e)
		}
		hintsAndBack(t, h)
	}
}

// Each byte of a list of hints changed: the answer is an error, or other hints that have these bytes.
func TestFromHintsOneByteChanged(t *testing.T) {
	s := source(11)
	for _, n := range []int{0, 1, 2, 20, 54, 55} {
		h := s.someHints(n, -1)
		b := hintBytes(h)
		for i := range b {
			for x := range 256 {
				c := slices.Clone(b)
				c[i] = byte(x)
				g, e := pack.FromHints(c)
				if e == api.OK {
					bytesAre(t, hintBytes(g), e, c)
				} else if g != ([6]api.Poly{}) || e != api.ErrPackHint || c[i] == b[i] {
					t.Fatal(c, e)
				}
			}
		}
	}
}

// P9.4.

func TestUniform(t *testing.T) {
	s := source(12)
	for _, seed := range append(seedsOf(34), s.bytes(34), s.bytes(34)) {
		p, e := pack.Uniform(seed)
		polyIs(t, p, e, uniform(seed))
	}
	for range 300 {
		seed := s.bytes(34)
		p, e := pack.Uniform(seed)
		polyIs(t, p, e, uniform(seed))
	}
}

func TestSmall(t *testing.T) {
	s := source(13)
	l := seedsOf(66)
	for range 300 {
		l = append(l, s.bytes(66))
	}
	for _, seed := range l {
		p, e := pack.Small(seed)
		polyIs(t, p, e, small(seed))
		if n, e := ring.Norm(p); n > 4 || e != api.OK {
			t.Fatal(n, e)
		}
	}
}

func TestBall(t *testing.T) {
	s := source(14)
	l := seedsOf(48)
	for range 300 {
		l = append(l, s.bytes(48))
	}
	for _, seed := range l {
		p, e := pack.Ball(seed)
		polyIs(t, p, e, ball(seed))
		ones, noughts := 0, 0
		for _, c := range p {
			switch c {
			case 1, modulus - 1:
				ones++
			case 0:
				noughts++
			}
		}
		if ones != 49 || noughts != 207 {
			t.Fatal(ones, noughts)
		}
	}
}

// seedsOf are seeds of n bytes: noughts, ones, and a single one at the first place and at the last.
func seedsOf(n int) [][]byte {
	l := [][]byte{make([]byte, n), bytes.Repeat([]byte{0xff}, n), make([]byte, n), make([]byte, n)}
	l[2][0] = 1
	l[3][n-1] = 1
	return l
}

func TestSeedsForm(t *testing.T) {
	for _, c := range []struct {
		call func([]byte) (api.Poly, api.Errno)
		size int
	}{{pack.Uniform, 34}, {pack.Small, 66}, {pack.Ball, 48}} {
		for _, n := range append(wrongSizes(c.size), 32, 33, 34, 48, 64, 66) {
			if n == c.size {
				continue
			}
			p, e := c.call(make([]byte, n))
			polyRefused(t, p, e, api.ErrPackForm)
		}
		p, e := c.call(nil)
		polyRefused(t, p, e, api.ErrPackForm)
	}
}

// P9.5.

func TestMatrix(t *testing.T) {
	s := source(15)
	for _, rho := range append(seedsOf(32), s.bytes(32), s.bytes(32)) {
		m, e := pack.Matrix(rho)
		if e != api.OK {
			t.Fatal(e)
		}
		for r := range 6 {
			for c := range 5 {
				seed := slices.Concat(rho, []byte{byte(c), byte(r)})
				polyIs(t, m[r][c], api.OK, uniform(seed))
			}
		}
	}
}

func TestMatrixForm(t *testing.T) {
	for _, n := range append(wrongSizes(32), 34) {
		if m, e := pack.Matrix(make([]byte, n)); m != ([6][5]api.Poly{}) || e != api.ErrPackForm {
			t.Fatal(n, e)
		}
	}
}

// P9.6: what the library's signers pack.

func TestSignaturesOfTheLibrary(t *testing.T) {
	s := source(16)
	for range 5 {
		key, err := mldsa.NewPrivateKey(mldsa.MLDSA65(), s.bytes(32))
		if err != nil {
			t.Fatal(err)
		}
		public := key.PublicKey().Bytes()
		for at := 32; at < len(public); at += 320 {
			part := public[at : at+320]
			p, e := pack.FromUp(part, 10)
			again, _ := pack.Up(p, 10)
			bytesAre(t, again, e, part)
		}
		sig, err := key.Sign(nil, s.bytes(20), nil)
		if err != nil {
			t.Fatal(err)
		}
		for at := 48; at < 48+5*640; at += 640 {
			part := sig[at : at+640]
			p, e := pack.FromDown(part, 1<<19, 20)
			if n, _ := ring.Norm(p); n >= 1<<19-196 {
				t.Error(n)
			}
			again, _ := pack.Down(p, 1<<19, 20)
			bytesAre(t, again, e, part)
		}
		h, e := pack.FromHints(sig[len(sig)-61:])
		again, _ := pack.Hints(h)
		bytesAre(t, again, e, sig[len(sig)-61:])
	}
}

// Rules: what is handed in stays, what lies behind it is neither read nor written, what is answered is new memory.

// roomy is a list with the same bytes, and others behind its end.
func roomy(b []byte, behind byte) []byte {
	whole := append(slices.Clone(b), bytes.Repeat([]byte{behind}, 64)...)
	return whole[:len(b)]
}

func TestWhatLiesBehind(t *testing.T) {
	s := source(17)
	for _, c := range []struct {
		size int
		call func(b []byte) any
	}{
		{320, func(b []byte) any { p, e := pack.FromUp(b, 10); return [2]any{p, e} }},
		{640, func(b []byte) any { p, e := pack.FromDown(b, 1<<19, 20); return [2]any{p, e} }},
		{61, func(b []byte) any { h, e := pack.FromHints(b); return [2]any{h, e} }},
		{34, func(b []byte) any { p, e := pack.Uniform(b); return [2]any{p, e} }},
		{66, func(b []byte) any { p, e := pack.Small(b); return [2]any{p, e} }},
		{48, func(b []byte) any { p, e := pack.Ball(b); return [2]any{p, e} }},
		{32, func(b []byte) any { m, e := pack.Matrix(b); return [2]any{m, e} }},
	} {
		l := [][]byte{s.bytes(c.size), hintBytes(s.someHints(30, -1))}
		for _, b := range l {
			want := c.call(slices.Clone(b))
			for _, behind := range []byte{0, 0xff, 0x5a} {
				r := roomy(b, behind)
				if got := c.call(r); got != want {
					t.Error(c.size, len(b))
				}
				whole := r[:cap(r)]
				if !bytes.Equal(r, b) || !bytes.Equal(whole[len(b):len(b)+64], bytes.Repeat([]byte{behind}, 64)) {
					t.Error(c.size, len(b), "written")
				}
			}
		}
	}
}

func TestAnswersAreNew(t *testing.T) {
	s := source(18)
	p, h := s.between(0, 1023), s.someHints(20, -1)
	for _, call := range []func() ([]byte, api.Errno){
		func() ([]byte, api.Errno) { return pack.Up(p, 10) },
		func() ([]byte, api.Errno) { return pack.Down(p, 1023, 11) },
		func() ([]byte, api.Errno) { return pack.Hints(h) },
	} {
		first, e := call()
		kept := slices.Clone(first)
		second, f := call()
		clear(first)
		third, g := call()
		bytesAre(t, second, e, kept)
		bytesAre(t, third, f, kept)
		if g != api.OK {
			t.Error(g)
		}
	}
}

// Calls ahead of one change nothing of it.
func TestSameTwice(t *testing.T) {
	s := source(19)
	seed := s.bytes(66)
	keep := slices.Clone(seed)
	type answers struct {
		u, s, b, f, g api.Poly
		m             [6][5]api.Poly
	}
	var first answers
	for i := range 3 {
		var a answers
		a.u, _ = pack.Uniform(seed[:34])
		a.s, _ = pack.Small(seed)
		a.b, _ = pack.Ball(seed[:48])
		a.m, _ = pack.Matrix(seed[:32])
		a.f, _ = pack.FromUp(seed[:64], 2)
		a.g, _ = pack.FromDown(seed[:64], 2, 2)
		if i == 0 {
			first = a
		}
		if a != first || !bytes.Equal(seed, keep) {
			t.Fatal(i)
		}
		pack.Uniform(seed)
		pack.Up(all(-1), 3)
	}
}

// The chapter's examples.

func TestExamples(t *testing.T) {
	x := api.Poly{0, 1}
	if b, e := pack.Up(x, 1); b[0] != 2 || e != api.OK {
		t.Error(b, e)
	}
	p, e := pack.FromUp(make([]byte, 32), 1)
	polyIs(t, p, e, api.Poly{})
	b, e := pack.Up(x, 24)
	bytesRefused(t, b, e, api.ErrArg)
	b, e = pack.Up(api.Poly{0, 2}, 1)
	bytesRefused(t, b, e, api.ErrPackRange)
	p, e = pack.FromUp(make([]byte, 31), 1)
	polyRefused(t, p, e, api.ErrPackForm)
	if b, e := pack.Down(api.Poly{}, 3, 2); b[0] != 0xff || e != api.OK {
		t.Error(b, e)
	}
	p, e = pack.FromDown(make([]byte, 64), 3, 2)
	polyIs(t, p, e, all(3))
	b, e = pack.Hints([6]api.Poly{})
	bytesAre(t, b, e, make([]byte, 61))
	b, e = pack.Hints([6]api.Poly{1: {5: 1}})
	bytesAre(t, b, e, slices.Concat([]byte{5}, make([]byte, 55), []byte{1, 1, 1, 1, 1}))
	hintsRefused(t, append([]byte{1}, make([]byte, 60)...), api.ErrPackHint)
}
