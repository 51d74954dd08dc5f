package wide_test

import (
	"bytes"
	"math"
	"math/big"
	"slices"
	"testing"

	"barbican/api"
	"barbican/wide"
)

var (
	most = api.Num{math.MaxUint64, math.MaxUint64, math.MaxUint64, math.MaxUint64}
	high = api.Num{0, 0, 0, 1 << 63} // 2^255
)

// P-256's two primes.
var (
	primeP = api.Num{0xffffffffffffffff, 0x00000000ffffffff, 0x0000000000000000, 0xffffffff00000001}
	primeN = api.Num{0xf3b9cac2fc632551, 0xbce6faada7179e84, 0xffffffffffffffff, 0xffffffff00000000}
)

// whole is the sum of word i times 2^(64 i).
func whole(words ...uint64) *big.Int {
	v := new(big.Int)
	for _, w := range slices.Backward(words) {
		v.Lsh(v, 64)
		v.Or(v, new(big.Int).SetUint64(w))
	}
	return v
}

// of is a number as a whole one.
func of(x api.Num) *big.Int { return whole(x[:]...) }

// power is 2^n.
func power(n uint) *big.Int { return new(big.Int).Lsh(big.NewInt(1), n) }

// wordsOf fills words with a whole number, from the lowest on.
func wordsOf(v *big.Int, words []uint64) {
	mask := new(big.Int).SetUint64(math.MaxUint64)
	for i := range words {
		words[i] = new(big.Int).And(v, mask).Uint64()
		v = new(big.Int).Rsh(v, 64)
	}
}

// num is a whole number without what is 2^256 and more.
func num(v *big.Int) api.Num {
	var x api.Num
	wordsOf(v, x[:])
	return x
}

// long is one without what is 2^512 and more.
func long(v *big.Int) [8]uint64 {
	var x [8]uint64
	wordsOf(v, x[:])
	return x
}

// A source gives numbers that follow no short pattern, the same ones in each run.
type source uint64

func (s *source) next() uint64 {
	*s += 0x9e3779b97f4a7c15
	v := uint64(*s)
	v = (v ^ v>>30) * 0xbf58476d1ce4e5b9
	v = (v ^ v>>27) * 0x94d049bb133111eb
	return v ^ v>>31
}

// num is any number.
func (s *source) num() api.Num {
	return api.Num{s.next(), s.next(), s.next(), s.next()}
}

// bytes are n of them.
func (s *source) bytes(n int) []byte {
	b := make([]byte, n)
	for i := range b {
		b[i] = byte(s.next())
	}
	return b
}

// edgy fills words whose halves stand at the ends of their range or at its middle: there carries run far, and digits of a quotient are guessed wrong.
func (s *source) edgy(words []uint64) {
	ends := [8]uint64{0, 1, 2, 0x7fffffff, 0x80000000, 0x80000001, 0xfffffffe, 0xffffffff}
	for i := range words {
		v := s.next()
		words[i] = ends[v&7]<<32 | ends[v>>3&7]
	}
}

func (s *source) edgyNum() api.Num {
	var x api.Num
	s.edgy(x[:])
	return x
}

// edges are the numbers about the ends of words and of halves of them.
func edges() []api.Num {
	l := []api.Num{{}, {1}, {2}, {3}, {5}, {7}, {10}, most, high, primeP, primeN}
	for _, n := range []uint{31, 32, 33, 63, 64, 65, 96, 127, 128, 160, 191, 192, 224, 254, 255, 256} {
		below := new(big.Int).Sub(power(n), big.NewInt(1))
		l = append(l, num(power(n)), num(below), num(new(big.Int).Sub(below, big.NewInt(1))))
		l = append(l, num(new(big.Int).Add(power(n), big.NewInt(1))))
	}
	return l
}

// divisors are the edges but 0, and some more.
func divisors() []api.Num {
	s := source(6)
	l := append(edges(), s.num(), s.num(), wide.Shr(s.num(), 100), wide.Shr(s.num(), 200))
	return slices.DeleteFunc(l, func(m api.Num) bool { return m == api.Num{} })
}

// samples are the edges, and some that follow no short pattern, of all sizes.
func samples() []api.Num {
	l := edges()
	s := source(1)
	for i := range 40 {
		l = append(l, s.edgyNum(), wide.Shr(s.num(), 7*i))
	}
	return l
}

// pairs goes over two samples at a time.
func pairs(look func(a, b api.Num)) {
	l := samples()
	for _, a := range l {
		for _, b := range l {
			look(a, b)
		}
	}
}

// divided goes over a sample and a divisor that is not 0 at a time.
func divided(look func(a, m api.Num)) {
	pairs(func(a, m api.Num) {
		if m != (api.Num{}) {
			look(a, m)
		}
	})
}

// P4.1: Of, Bytes.

func TestOfAndBytes(t *testing.T) {
	for _, x := range samples() {
		want := make([]byte, 32)
		of(x).FillBytes(want)
		b := wide.Bytes(x)
		if !bytes.Equal(b[:], want) {
			t.Errorf("Bytes(%x): %x, not %x", x, b, want)
		}
		if got, e := wide.Of(want); got != x || e != api.OK {
			t.Errorf("Of(%x): %x, %v, not %x", want, got, e, x)
		}
	}
}

func TestOfEachByte(t *testing.T) {
	for i := range 32 {
		b := make([]byte, 32)
		b[i] = 0xa5
		x, e := wide.Of(b)
		if want := num(new(big.Int).SetBytes(b)); x != want || e != api.OK {
			t.Errorf("byte %d: %x, %v, not %x", i, x, e, want)
		}
		if got := wide.Bytes(x); !bytes.Equal(got[:], b) {
			t.Errorf("byte %d: back %x", i, got)
		}
	}
}

func TestOfExamples(t *testing.T) {
	b := make([]byte, 32)
	b[31] = 5
	if x, e := wide.Of(b); x != (api.Num{5}) || e != api.OK {
		t.Errorf("%x, %v", x, e)
	}
	if x, e := wide.Of(b[1:]); x != (api.Num{}) || e != api.ErrWideForm {
		t.Errorf("of 31 bytes: %x, %v", x, e)
	}
	if x, e := wide.Of(bytes.Repeat([]byte{255}, 32)); x != most || e != api.OK {
		t.Errorf("%x, %v", x, e)
	}
}

func TestOfOtherLengths(t *testing.T) {
	s := source(2)
	b := s.bytes(1000)
	for n := range 200 {
		if n == 32 {
			continue
		}
		// Behind each length there is more in the memory, which counts for nothing.
		if x, e := wide.Of(b[:n]); x != (api.Num{}) || e != api.ErrWideForm {
			t.Errorf("of %d bytes: %x, %v", n, x, e)
		}
	}
	for _, b := range [][]byte{nil, {}, b[:256], b[:512], b} {
		if x, e := wide.Of(b); x != (api.Num{}) || e != api.ErrWideForm {
			t.Errorf("of %d bytes: %x, %v", len(b), x, e)
		}
	}
}

// P4.1: Cmp, Bits, Bit.

func TestCmp(t *testing.T) {
	pairs(func(a, b api.Num) {
		if got, want := wide.Cmp(a, b), of(a).Cmp(of(b)); got != want {
			t.Errorf("Cmp(%x, %x): %d, not %d", a, b, got, want)
		}
	})
}

func TestCmpByEachBit(t *testing.T) {
	for i := range 256 {
		// All bits below count less than the one.
		one := num(power(uint(i)))
		below := num(new(big.Int).Sub(power(uint(i)), big.NewInt(1)))
		if wide.Cmp(one, below) != 1 || wide.Cmp(below, one) != -1 || wide.Cmp(one, one) != 0 || wide.Cmp(below, below) != 0 {
			t.Errorf("2^%d", i)
		}
	}
}

func TestBits(t *testing.T) {
	for _, x := range samples() {
		if got, want := wide.Bits(x), of(x).BitLen(); got != want {
			t.Errorf("Bits(%x): %d, not %d", x, got, want)
		}
	}
	for n := range 256 {
		x := num(power(uint(n)))
		below := num(new(big.Int).Sub(power(uint(n)), big.NewInt(1)))
		if wide.Bits(x) != n+1 || wide.Bits(below) != n {
			t.Errorf("2^%d: %d, and %d below it", n, wide.Bits(x), wide.Bits(below))
		}
	}
}

func TestBit(t *testing.T) {
	for _, x := range samples() {
		v := of(x)
		for i := range 256 {
			if got, want := wide.Bit(x, i), int(v.Bit(i)); got != want {
				t.Errorf("Bit(%x, %d): %d, not %d", x, i, got, want)
			}
		}
	}
}

func TestBitBeyond(t *testing.T) {
	for _, i := range []int{-1, -2, -64, -255, -256, 256, 257, 320, 511, 512, 1 << 32, -1 << 32, math.MaxInt, math.MinInt} {
		for _, x := range []api.Num{{}, {1}, high, most} {
			if got := wide.Bit(x, i); got != 0 {
				t.Errorf("Bit(%x, %d): %d", x, i, got)
			}
		}
	}
	if wide.Bit(most, 0) != 1 || wide.Bit(most, 255) != 1 {
		t.Error("the lowest and the highest bit")
	}
}

func TestBitExamples(t *testing.T) {
	if wide.Bits(api.Num{}) != 0 || wide.Bits(high) != 256 || wide.Bits(most) != 256 {
		t.Error("Bits")
	}
	if wide.Bit(api.Num{5}, 2) != 1 || wide.Bit(api.Num{5}, 1) != 0 || wide.Bit(api.Num{5}, 256) != 0 || wide.Bit(high, 255) != 1 {
		t.Error("Bit")
	}
}

// P4.2: Shl, Shr.

func TestShifts(t *testing.T) {
	for _, x := range samples() {
		for n := range 300 {
			if got, want := wide.Shl(x, n), num(new(big.Int).Lsh(of(x), uint(n))); got != want {
				t.Fatalf("Shl(%x, %d): %x, not %x", x, n, got, want)
			}
			if got, want := wide.Shr(x, n), num(new(big.Int).Rsh(of(x), uint(n))); got != want {
				t.Fatalf("Shr(%x, %d): %x, not %x", x, n, got, want)
			}
		}
	}
}

func TestShiftsByOtherNumbers(t *testing.T) {
	for _, x := range samples() {
		for _, n := range []int{0, -1, -2, -64, -255, -256, -1 << 32, math.MinInt} {
			if wide.Shl(x, n) != x || wide.Shr(x, n) != x {
				t.Errorf("by %d: %x, %x", n, wide.Shl(x, n), wide.Shr(x, n))
			}
		}
		for _, n := range []int{256, 257, 320, 511, 512, 1 << 32, 1<<32 + 1, math.MaxInt} {
			if wide.Shl(x, n) != (api.Num{}) || wide.Shr(x, n) != (api.Num{}) {
				t.Errorf("by %d: %x, %x", n, wide.Shl(x, n), wide.Shr(x, n))
			}
		}
	}
}

func TestShiftExamples(t *testing.T) {
	if got := wide.Shl(api.Num{3}, 255); got != high {
		t.Errorf("Shl(3, 255): %x", got)
	}
	if got := wide.Shr(api.Num{3}, 1); got != (api.Num{1}) {
		t.Errorf("Shr(3, 1): %x", got)
	}
	// By whole words.
	x := api.Num{1, 2, 3, 4}
	if wide.Shl(x, 64) != (api.Num{0, 1, 2, 3}) || wide.Shl(x, 128) != (api.Num{0, 0, 1, 2}) || wide.Shl(x, 192) != (api.Num{0, 0, 0, 1}) {
		t.Error("up")
	}
	if wide.Shr(x, 64) != (api.Num{2, 3, 4}) || wide.Shr(x, 128) != (api.Num{3, 4}) || wide.Shr(x, 192) != (api.Num{4}) {
		t.Error("down")
	}
}

// P4.2: Add, Sub.

func TestAdd(t *testing.T) {
	pairs(func(a, b api.Num) {
		want := new(big.Int).Add(of(a), of(b))
		got, carried := wide.Add(a, b)
		if got != num(want) || carried != int(want.Bit(256)) {
			t.Errorf("Add(%x, %x): %x, %d, not %x", a, b, got, carried, want)
		}
	})
}

func TestSub(t *testing.T) {
	pairs(func(a, b api.Num) {
		want, borrow := new(big.Int).Sub(of(a), of(b)), 0
		if want.Sign() < 0 {
			want.Add(want, power(256))
			borrow = 1
		}
		if got, borrowed := wide.Sub(a, b); got != num(want) || borrowed != borrow {
			t.Errorf("Sub(%x, %x): %x, %d, not %x, %d", a, b, got, borrowed, want, borrow)
		}
	})
}

func TestCarriesThroughWords(t *testing.T) {
	for i := range 256 {
		// The lowest bit that is set sends a carry up through all bits that are set above it.
		bit := num(power(uint(i)))
		from := wide.Shl(most, i)
		if got, carried := wide.Add(from, bit); got != (api.Num{}) || carried != 1 {
			t.Errorf("up from %d: %x, %d", i, got, carried)
		}
		if got, borrowed := wide.Sub(api.Num{}, bit); got != from || borrowed != 1 {
			t.Errorf("down to %d: %x, %d", i, got, borrowed)
		}
	}
}

func TestSumExamples(t *testing.T) {
	if got, carried := wide.Add(most, api.Num{1}); got != (api.Num{}) || carried != 1 {
		t.Errorf("%x, %d", got, carried)
	}
	if got, borrowed := wide.Sub(api.Num{}, api.Num{1}); got != most || borrowed != 1 {
		t.Errorf("%x, %d", got, borrowed)
	}
	if got, carried := wide.Add(most, most); got != (api.Num{math.MaxUint64 - 1, math.MaxUint64, math.MaxUint64, math.MaxUint64}) || carried != 1 {
		t.Errorf("%x, %d", got, carried)
	}
	if got, borrowed := wide.Sub(most, most); got != (api.Num{}) || borrowed != 0 {
		t.Errorf("%x, %d", got, borrowed)
	}
}

// P4.3: Mul.

func TestMul(t *testing.T) {
	pairs(func(a, b api.Num) {
		want := new(big.Int).Mul(of(a), of(b))
		if got := wide.Mul(a, b); whole(got[:]...).Cmp(want) != 0 {
			t.Errorf("Mul(%x, %x): %x, not %x", a, b, got, want)
		}
	})
}

func TestMulOfMost(t *testing.T) {
	want := new(big.Int).Sub(power(512), power(257))
	want.Add(want, big.NewInt(1))
	if got := wide.Mul(most, most); got != long(want) || got[7] != math.MaxUint64 {
		t.Errorf("%x", got)
	}
}

// P4.3: DivRem.

// checkDivRem holds a quotient and a rest against the standard ones.
func checkDivRem(t *testing.T, x [8]uint64, m api.Num) {
	t.Helper()
	q, rest, e := wide.DivRem(x, m)
	wantQ, wantRest := new(big.Int).QuoRem(whole(x[:]...), of(m), new(big.Int))
	if q != long(wantQ) || rest != num(wantRest) || e != api.OK {
		t.Fatalf("DivRem(%x, %x): %x, %x, %v, not %x, %x", x, m, q, rest, e, wantQ, wantRest)
	}
}

func TestDivRem(t *testing.T) {
	s := source(3)
	divided(func(a, m api.Num) {
		checkDivRem(t, [8]uint64(append(a[:], 0, 0, 0, 0)), m)
		checkDivRem(t, [8]uint64(append(make([]uint64, 4), a[:]...)), m)
		b := s.num()
		checkDivRem(t, [8]uint64(append(b[:], a[:]...)), m)
		checkDivRem(t, wide.Mul(a, m), m)
		checkDivRem(t, wide.Mul(a, a), m)
	})
}

func TestDivRemAboutMultiples(t *testing.T) {
	one := big.NewInt(1)
	divided(func(a, m api.Num) {
		if a == (api.Num{}) {
			return
		}
		product := new(big.Int).Mul(of(a), of(m))
		checkDivRem(t, long(new(big.Int).Sub(product, one)), m)
		checkDivRem(t, long(new(big.Int).Add(product, one)), m)
		checkDivRem(t, long(new(big.Int).Add(product, new(big.Int).Sub(of(m), one))), m)
	})
}

func TestDivRemOfEdgyHalves(t *testing.T) {
	s := source(4)
	for i := range 100000 {
		var x [8]uint64
		s.edgy(x[:])
		m := wide.Shr(s.edgyNum(), i%256)
		if m != (api.Num{}) {
			checkDivRem(t, x, m)
		}
	}
}

func TestDivRemOfAnyNumbers(t *testing.T) {
	s := source(5)
	for i := range 20000 {
		a, b := s.num(), s.num()
		if m := wide.Shr(s.num(), i%256); m != (api.Num{}) {
			checkDivRem(t, [8]uint64(append(a[:], b[:]...)), m)
		}
	}
}

// longs are the edges of what is divided.
func longs() [][8]uint64 {
	all := [8]uint64{}
	for i := range all {
		all[i] = math.MaxUint64
	}
	return [][8]uint64{{}, {1}, {7}, {math.MaxUint64}, {0, 1}, {0, 0, 0, 1 << 63}, {0, 0, 0, 0, 1}, {0, 0, 0, 0, 0, 0, 0, 1}, {0, 0, 0, 0, 0, 0, 0, 1 << 63}, wide.Mul(most, most), all}
}

func TestDivRemByEdges(t *testing.T) {
	for _, x := range longs() {
		for _, m := range divisors() {
			checkDivRem(t, x, m)
		}
		// By 1 the quotient has all eight words.
		if q, rest, e := wide.DivRem(x, api.Num{1}); q != x || rest != (api.Num{}) || e != api.OK {
			t.Errorf("%x by 1: %x, %x, %v", x, q, rest, e)
		}
	}
}

func TestDivRemByGreater(t *testing.T) {
	pairs(func(a, m api.Num) {
		if wide.Cmp(a, m) >= 0 {
			return
		}
		x := [8]uint64{a[0], a[1], a[2], a[3]}
		if q, rest, e := wide.DivRem(x, m); q != [8]uint64{} || rest != a || e != api.OK {
			t.Errorf("%x by %x: %x, %x, %v", a, m, q, rest, e)
		}
	})
}

func TestDivRemByZero(t *testing.T) {
	for _, x := range longs() {
		if q, rest, e := wide.DivRem(x, api.Num{}); q != [8]uint64{} || rest != (api.Num{}) || e != api.ErrWideZero {
			t.Errorf("%x: %x, %x, %v", x, q, rest, e)
		}
	}
}

func TestDivRemExample(t *testing.T) {
	if q, rest, e := wide.DivRem([8]uint64{7}, api.Num{2}); q != [8]uint64{3} || rest != (api.Num{1}) || e != api.OK {
		t.Errorf("%x, %x, %v", q, rest, e)
	}
}

// P4.3: MulMod.

func TestMulMod(t *testing.T) {
	moduli, i := divisors(), 0
	pairs(func(a, b api.Num) {
		// Each pair by some of them: the pairs are many.
		for range 5 {
			m := moduli[i%len(moduli)]
			i++
			want := new(big.Int).Mul(of(a), of(b))
			want.Mod(want, of(m))
			if got, e := wide.MulMod(a, b, m); got != num(want) || e != api.OK {
				t.Fatalf("MulMod(%x, %x, %x): %x, %v, not %x", a, b, m, got, e, want)
			}
		}
	})
}

func TestMulModByZero(t *testing.T) {
	for _, a := range samples() {
		if got, e := wide.MulMod(a, most, api.Num{}); got != (api.Num{}) || e != api.ErrWideZero {
			t.Errorf("%x: %x, %v", a, got, e)
		}
	}
}

// P4.3: Reduce.

// checkReduce holds a rest against the standard one.
func checkReduce(t *testing.T, b []byte, m api.Num) {
	t.Helper()
	want := new(big.Int).SetBytes(b)
	want.Mod(want, of(m))
	if got, e := wide.Reduce(b, m); got != num(want) || e != api.OK {
		t.Fatalf("Reduce of %d bytes, by %x: %x, %v, not %x", len(b), m, got, e, want)
	}
}

func TestReduce(t *testing.T) {
	s := source(7)
	for n := range 140 {
		// Behind each length there is more in the memory, which counts for nothing.
		b := s.bytes(n + 40)[:n]
		for _, m := range divisors() {
			checkReduce(t, b, m)
		}
	}
}

func TestReduceOfEdgyBytes(t *testing.T) {
	for n := range 140 {
		for _, m := range divisors() {
			checkReduce(t, make([]byte, n), m)
			checkReduce(t, bytes.Repeat([]byte{255}, n), m)
			checkReduce(t, append([]byte{1}, make([]byte, n)...), m)
			checkReduce(t, append(make([]byte, n), 1), m)
		}
	}
}

func TestReduceOfNumbers(t *testing.T) {
	divided(func(x, m api.Num) {
		b := wide.Bytes(x)
		checkReduce(t, b[:], m)
	})
}

func TestReduceOfManyBytes(t *testing.T) {
	s := source(8)
	for _, n := range []int{511, 512, 513, 1000, 4096, 65536, 100001} {
		b := s.bytes(n)
		for _, m := range []api.Num{{1}, {7}, {0, 1}, high, primeP, primeN, most} {
			checkReduce(t, b, m)
		}
	}
}

func TestReduceOfNoBytes(t *testing.T) {
	for _, m := range divisors() {
		for _, b := range [][]byte{nil, {}} {
			if got, e := wide.Reduce(b, m); got != (api.Num{}) || e != api.OK {
				t.Errorf("by %x: %x, %v", m, got, e)
			}
		}
	}
}

func TestReduceByZero(t *testing.T) {
	s := source(9)
	for _, n := range []int{0, 1, 31, 32, 33, 64, 1000} {
		if got, e := wide.Reduce(s.bytes(n), api.Num{}); got != (api.Num{}) || e != api.ErrWideZero {
			t.Errorf("%d bytes: %x, %v", n, got, e)
		}
	}
}

func TestReduceExample(t *testing.T) {
	if got, e := wide.Reduce([]byte{1, 0}, api.Num{7}); got != (api.Num{4}) || e != api.OK {
		t.Errorf("%x, %v", got, e)
	}
}

// P4.4.

func TestOrderCountsForNothing(t *testing.T) {
	pairs(func(a, b api.Num) {
		first, carried := wide.Add(a, b)
		second, carriedToo := wide.Add(b, a)
		if first != second || carried != carriedToo || wide.Mul(a, b) != wide.Mul(b, a) {
			t.Errorf("%x, %x", a, b)
		}
	})
}

func TestSubTakesBack(t *testing.T) {
	pairs(func(a, b api.Num) {
		s, carried := wide.Add(a, b)
		if back, borrowed := wide.Sub(s, b); back != a || borrowed != carried {
			t.Errorf("%x, %x: %x, %d and %d", a, b, back, borrowed, carried)
		}
	})
}

// plus is a + b without what is 2^512 and more.
func plus(a, b [8]uint64) [8]uint64 {
	return long(new(big.Int).Add(whole(a[:]...), whole(b[:]...)))
}

func TestProductOfSum(t *testing.T) {
	s := source(10)
	pairs(func(a, b api.Num) {
		c := s.num()
		sum, carried := wide.Add(b, c)
		left := wide.Mul(a, sum)
		if carried == 1 {
			// What the sum lost, times a.
			left = plus(left, wide.Mul(a, high))
			left = plus(left, wide.Mul(a, high))
		}
		if right := plus(wide.Mul(a, b), wide.Mul(a, c)); left != right {
			t.Errorf("%x, %x, %x: %x, not %x", a, b, c, left, right)
		}
	})
}

func TestQuotientTimesDivisor(t *testing.T) {
	divided(func(a, m api.Num) {
		x := plus(wide.Mul(a, most), wide.Mul(m, a))
		q, rest, e := wide.DivRem(x, m)
		if e != api.OK || wide.Cmp(rest, m) >= 0 {
			t.Fatalf("%x by %x: %x, %v", x, m, rest, e)
		}
		back := new(big.Int).Mul(whole(q[:]...), of(m))
		if back.Add(back, of(rest)).Cmp(whole(x[:]...)) != 0 {
			t.Errorf("%x by %x: back %x", x, m, back)
		}
	})
}

func TestShrTakesBack(t *testing.T) {
	for _, x := range samples() {
		// As far as nothing is lost.
		for n := range 256 - wide.Bits(x) + 1 {
			if back := wide.Shr(wide.Shl(x, n), n); back != x {
				t.Errorf("%x by %d: %x", x, n, back)
			}
		}
	}
}

// P1, P2 and rule 4.

func TestSameTwice(t *testing.T) {
	s := source(11)
	for range 200 {
		a, b, m := s.num(), s.num(), s.edgyNum()
		bytesGiven := s.bytes(int(s.next() % 100))
		x := wide.Mul(a, b)
		q, rest, e := wide.DivRem(x, m)
		product, _ := wide.MulMod(a, b, m)
		reduced, _ := wide.Reduce(bytesGiven, m)
		wide.Reduce(s.bytes(77), b)
		q2, rest2, e2 := wide.DivRem(x, m)
		product2, _ := wide.MulMod(a, b, m)
		reduced2, _ := wide.Reduce(bytesGiven, m)
		if x != wide.Mul(a, b) || q != q2 || rest != rest2 || e != e2 || product != product2 || reduced != reduced2 {
			t.Fatalf("%x, %x, %x", a, b, m)
		}
	}
}

func TestBytesStay(t *testing.T) {
	s := source(12)
	for _, n := range []int{0, 1, 31, 32, 33, 64, 100, 1000} {
		b := s.bytes(n + 50)
		before := bytes.Clone(b)
		wide.Of(b[:n])
		wide.Reduce(b[:n], primeN)
		if !bytes.Equal(b, before) {
			t.Errorf("%d bytes: written into", n)
		}
	}
}

func TestBytesAreNotKept(t *testing.T) {
	s := source(13)
	b := s.bytes(32)
	x, _ := wide.Of(b)
	want := x
	clear(b)
	if x != want || x == (api.Num{}) {
		t.Errorf("%x", x)
	}
}
