package keccak_test

import (
	"bytes"
	"crypto/sha3"
	"encoding"
	"encoding/binary"
	"encoding/hex"
	"math"
	"math/bits"
	"slices"
	"strings"
	"testing"

	"barbican/api"
	"barbican/keccak"
)

// A kind is what the chapter's table says of one, and the library's way to the same bytes.
type kind struct {
	number, rate, size int // a size of endless: without end
	standard           func(b []byte, n int) []byte
}

const endless = -1

var kinds = []kind{
	{1, 136, 32, func(b []byte, n int) []byte { d := sha3.Sum256(b); return d[:n] }},
	{2, 104, 48, func(b []byte, n int) []byte { d := sha3.Sum384(b); return d[:n] }},
	{3, 72, 64, func(b []byte, n int) []byte { d := sha3.Sum512(b); return d[:n] }},
	{4, 168, endless, sha3.SumSHAKE128},
	{5, 136, endless, sha3.SumSHAKE256},
}

// all is how many bytes a test asks of the kind: all there are, or some rates.
func (k kind) all() int {
	if k.size == endless {
		return 4*k.rate + 5
	}
	return k.size
}

// begin is a new sponge.
func (k kind) begin(t *testing.T) *keccak.Sponge {
	t.Helper()
	s, e := keccak.New(k.number)
	if s == nil || e != api.OK {
		t.Fatalf("New(%d): %v, %v", k.number, s, e)
	}
	return s
}

// behind is a sponge that has taken a message in.
func (k kind) behind(t *testing.T, b []byte) *keccak.Sponge {
	t.Helper()
	s := k.begin(t)
	write(t, s, b)
	return s
}

// edges are the lengths about the ends of the first rates.
func (k kind) edges() []int {
	l := []int{0, 1, 2, 7, 8, 9}
	for i := 1; i <= 3; i++ {
		l = append(l, i*k.rate-2, i*k.rate-1, i*k.rate, i*k.rate+1)
	}
	return l
}

// sampleBytes are n bytes that follow no short pattern, the same ones in each run.
func sampleBytes(n int) []byte {
	b := make([]byte, n)
	state := uint32(1)
	for i := range b {
		state = state*1664525 + 1013904223
		b[i] = byte(state >> 24)
	}
	return b
}

func write(t *testing.T, s *keccak.Sponge, b []byte) {
	t.Helper()
	if e := s.Write(b); e != api.OK {
		t.Fatalf("Write of %d bytes: %v", len(b), e)
	}
}

func read(t *testing.T, s *keccak.Sponge, n int) []byte {
	t.Helper()
	b, e := s.Read(n)
	if len(b) != n || e != api.OK {
		t.Fatalf("Read(%d): %d bytes, %v", n, len(b), e)
	}
	return b
}

// refusesRead tells that a Read is refused, with nothing beside the error.
func refusesRead(t *testing.T, s *keccak.Sponge, n int, want api.Errno) {
	t.Helper()
	if b, e := s.Read(n); len(b) != 0 || e != want {
		t.Errorf("Read(%d): %d bytes, %v, not %v", n, len(b), e, want)
	}
}

// P3.1: Permute.

// places goes over the words (x, y).
func places(look func(x, y int)) {
	for x := range 5 {
		for y := range 5 {
			look(x, y)
		}
	}
}

// offsets are the chapter's, of the words (x, y).
func offsets() [5][5]int {
	var o [5][5]int
	x, y := 1, 0
	for t := range 24 {
		o[x][y] = (t + 1) * (t + 2) / 2 % 64
		x, y = y, (2*x+3*y)%5
	}
	return o
}

// roundConstant is the chapter's, from its rule.
func roundConstant(r int) uint64 {
	bit := func(t int) uint64 {
		if t%255 == 0 {
			return 1
		}
		v := 1
		for range t % 255 {
			v <<= 1
			if v > 255 {
				v = v&255 ^ 0x71
			}
		}
		return uint64(v & 1)
	}
	var c uint64
	for j := range 7 {
		c |= bit(j+7*r) << (1<<j - 1)
	}
	return c
}

// sumsOf are the chapter's C(x).
func sumsOf(s [25]uint64) [5]uint64 {
	var c [5]uint64
	places(func(x, y int) { c[x] ^= s[x+5*y] })
	return c
}

// sharesOf is what the first step xors into the words (x, y), by the sums.
func sharesOf(c [5]uint64) [5]uint64 {
	var d [5]uint64
	for x := range d {
		d[x] = c[(x+4)%5] ^ bits.RotateLeft64(c[(x+1)%5], 1)
	}
	return d
}

// permuted is the chapter's Permute, step by step.
func permuted(s [25]uint64) [25]uint64 {
	o := offsets()
	for r := range 24 {
		shares := sharesOf(sumsOf(s))
		places(func(x, y int) { s[x+5*y] ^= shares[x] })
		var moved, next [25]uint64
		places(func(x, y int) { moved[y+5*((2*x+3*y)%5)] = bits.RotateLeft64(s[x+5*y], o[x][y]) })
		places(func(x, y int) { next[x+5*y] = moved[x+5*y] ^ ^moved[(x+1)%5+5*y]&moved[(x+2)%5+5*y] })
		next[0] ^= roundConstant(r)
		s = next
	}
	return s
}

// standardPermuted is the library's: a sponge that is set to a state takes a rate of noughts in.
func standardPermuted(t *testing.T, s [25]uint64) [25]uint64 {
	t.Helper()
	b := append([]byte("sha\x08"), 136)
	for _, w := range s {
		b = binary.LittleEndian.AppendUint64(b, w)
	}
	h := sha3.New256()
	if err := h.UnmarshalBinary(append(b, 0, 0)); err != nil {
		t.Fatal(err)
	}
	h.Write(make([]byte, 136))
	kept, err := encoding.BinaryMarshaler(h).MarshalBinary()
	if err != nil {
		t.Fatal(err)
	}
	for i := range s {
		s[i] = binary.LittleEndian.Uint64(kept[5+8*i:])
	}
	return s
}

// sampleStates are states with one bit and with all bits but one, and some that follow no short pattern.
func sampleStates() [][25]uint64 {
	var l [][25]uint64
	var full [25]uint64
	for i := range full {
		full[i] = math.MaxUint64
	}
	l = append(l, [25]uint64{}, full)
	for i := range 1600 {
		var one [25]uint64
		but := full
		one[i/64] |= 1 << (i % 64)
		but[i/64] &^= 1 << (i % 64)
		l = append(l, one, but)
	}
	b := sampleBytes(500 * 200)
	for from := 0; from < len(b); from += 200 {
		var s [25]uint64
		for i := range s {
			s[i] = binary.LittleEndian.Uint64(b[from+8*i:])
		}
		l = append(l, s)
	}
	return l
}

func TestPermuteOfNoughts(t *testing.T) {
	got := keccak.Permute([25]uint64{})
	want := [25]uint64{
		0xf1258f7940e1dde7, 0x84d5ccf933c0478a, 0xd598261ea65aa9ee, 0xbd1547306f80494d, 0x8b284e056253d057,
		0xff97a42d7f8e6fd4, 0x90fee5a0a44647c4, 0x8c5bda0cd6192e76, 0xad30a6f71b19059c, 0x30935ab7d08ffc64,
		0xeb5aa93f2317d635, 0xa9a6e6260d712103, 0x81a57c16dbcf555f, 0x43b831cd0347c826, 0x01f22f1a11a5569f,
		0x05e5635a21d9ae61, 0x64befef28cc970f2, 0x613670957bc46611, 0xb87c5a554fd00ecb, 0x8c3ee88a1ccf32c8,
		0x940c7922ae3a2614, 0x1841f924a2c509e4, 0x16f53526e70465c2, 0x75f644e97f30a13b, 0xeaf1ff7b5ceca249,
	}
	if got != want {
		t.Errorf("%x", got)
	}
}

func TestPermute(t *testing.T) {
	for _, s := range sampleStates() {
		before := s
		got := keccak.Permute(s)
		if want := permuted(s); got != want {
			t.Fatalf("%x: %x, not %x", s, got, want)
		}
		if want := standardPermuted(t, s); got != want {
			t.Fatalf("%x: %x, not the library's %x", s, got, want)
		}
		if s != before || keccak.Permute(s) != got {
			t.Fatalf("%x: not the same twice", s)
		}
	}
}

// P3.1: Sum256, Sum512.

func TestSumsOfKnownTexts(t *testing.T) {
	for _, c := range []struct{ text, first, second string }{
		{"", "a7ffc6f8bf1ed76651c14756a061d662f580ff4de43b49fa82d80a4b80f8434a",
			"a69f73cca23a9ac5c8b567dc185a756e97c982164fe25859e0d1dcc1475c80a615b2123af1f5f94c11e3e9402c3ac558f500199d95b6d3e301758586281dcd26"},
		{"abc", "3a985da74fe225b2045c172d6bd390bd855f086e3e9d525b46bfe24511431532",
			"b751850b1a57168a5693cd924b6b096e08f621827444f70d884f5d0240d2712e10e116e9192af3c91a7ec57647e3934057340b4cf408d5a56592f8274eec53f0"},
		{strings.Repeat("\xa3", 200), "79f38adec5c20307a98ef76e8324afbfd46cfd81b22e3973c65fa1bd9de31787",
			"e76dfad22084a8b1467fcf2ffa58361bec7628edf5f3fdc0e4805dc48caeeca81b7c13c30adf52a3659584739a2df46be589c51ca1a4a8416df6545a1ce8ba00"},
	} {
		a, b := keccak.Sum256([]byte(c.text)), keccak.Sum512([]byte(c.text))
		if hex.EncodeToString(a[:]) != c.first || hex.EncodeToString(b[:]) != c.second {
			t.Errorf("%d bytes: %x, %x", len(c.text), a, b)
		}
	}
}

func TestSums(t *testing.T) {
	b := sampleBytes(3*136 + 3)
	for n := range len(b) + 1 {
		if got, want := keccak.Sum256(b[:n]), sha3.Sum256(b[:n]); got != want {
			t.Errorf("Sum256 of %d bytes: %x, not %x", n, got, want)
		}
		if got, want := keccak.Sum512(b[:n]), sha3.Sum512(b[:n]); got != want {
			t.Errorf("Sum512 of %d bytes: %x, not %x", n, got, want)
		}
	}
}

func TestSumsOfLongMessages(t *testing.T) {
	for _, n := range []int{4096, 65535, 65536, 1000001} {
		b := sampleBytes(n)
		if got, want := keccak.Sum256(b), sha3.Sum256(b); got != want {
			t.Errorf("Sum256 of %d bytes: %x, not %x", n, got, want)
		}
		if got, want := keccak.Sum512(b), sha3.Sum512(b); got != want {
			t.Errorf("Sum512 of %d bytes: %x, not %x", n, got, want)
		}
	}
}

// P3.1: Shake.

func TestShakeOfKnownTexts(t *testing.T) {
	for _, c := range []struct {
		kind int
		text string
		want string
	}{
		{keccak.Shake128, "", "7f9c2ba4"},
		{keccak.Shake256, "", "46b9dd2b"},
		{keccak.Shake128, "", "7f9c2ba4e88f827d616045507605853ed73b8093f6efbc88eb1a6eacfa66ef26"},
		{keccak.Shake256, "", "46b9dd2b0ba88d13233b3feb743eeb243fcd52ea62b81b82b50c27646ed5762fd75dc4ddd8c0f200cb05019d67b592f6fc821c49479ab48640292eacb3b7c4be"},
		{keccak.Shake128, "abc", "5881092dd818bf5cf8a3ddb793fbcba74097d5c526a6d35f97b83351940f2cc8"},
		{keccak.Shake256, "abc", "483366601360a8771c6863080cc4114d8db44530f8f1e1ee4f94ea37e78b5739"},
	} {
		n := len(c.want) / 2
		if got, e := keccak.Shake(c.kind, []byte(c.text), n); hex.EncodeToString(got) != c.want || e != api.OK {
			t.Errorf("Shake(%d, %q, %d): %x, %v", c.kind, c.text, n, got, e)
		}
	}
}

func TestShake(t *testing.T) {
	for _, k := range kinds[3:] {
		for _, size := range k.edges() {
			b := sampleBytes(size)
			for _, n := range append(k.edges(), 1000, api.MaxSqueeze-1, api.MaxSqueeze) {
				got, e := keccak.Shake(k.number, b, n)
				if want := k.standard(b, n); !bytes.Equal(got, want) || e != api.OK {
					t.Fatalf("%d, %d bytes, %d asked: %v, %d bytes, other than they should be", k.number, size, n, e, len(got))
				}
			}
		}
	}
}

func TestShakeOfEachLength(t *testing.T) {
	for _, k := range kinds[3:] {
		b := sampleBytes(3*k.rate + 3)
		for n := range len(b) + 1 {
			got, e := keccak.Shake(k.number, b[:n], 40)
			if want := k.standard(b[:n], 40); !bytes.Equal(got, want) || e != api.OK {
				t.Errorf("%d, %d bytes: %x, %v, not %x", k.number, n, got, e, want)
			}
		}
	}
}

// wrongNumbers are of no kind.
var wrongNumbers = []int{0, -1, 6, 7, 8, 128, 256, 1 + 1<<32, 5 - 1<<32, math.MaxInt, math.MinInt}

// wrongCounts are of bytes that nobody may ask for.
var wrongCounts = []int{-1, -2, -136, api.MaxSqueeze + 1, 2 * api.MaxSqueeze, 1 << 32, math.MaxInt, math.MinInt}

func TestShakeOfOtherKinds(t *testing.T) {
	for _, number := range append([]int{keccak.Sha256, keccak.Sha384, keccak.Sha512}, wrongNumbers...) {
		// The kind is looked at ahead of the count.
		for _, n := range append([]int{0, 1, 32, api.MaxSqueeze}, wrongCounts...) {
			if b, e := keccak.Shake(number, []byte("abc"), n); len(b) != 0 || e != api.ErrKecKind {
				t.Errorf("Shake(%d, abc, %d): %x, %v", number, n, b, e)
			}
		}
	}
}

func TestShakeOfWrongCounts(t *testing.T) {
	for _, k := range kinds[3:] {
		for _, n := range wrongCounts {
			if b, e := keccak.Shake(k.number, []byte("abc"), n); len(b) != 0 || e != api.ErrArg {
				t.Errorf("Shake(%d, abc, %d): %d bytes, %v", k.number, n, len(b), e)
			}
		}
	}
}

// P3.2: New, Left.

func TestNumbers(t *testing.T) {
	got := []int{keccak.Sha256, keccak.Sha384, keccak.Sha512, keccak.Shake128, keccak.Shake256}
	if want := []int{1, 2, 3, 4, 5}; !slices.Equal(got, want) {
		t.Errorf("%v", got)
	}
}

func TestNew(t *testing.T) {
	for _, k := range kinds {
		s := k.begin(t)
		if s.Left() != k.size {
			t.Errorf("%d: %d left", k.number, s.Left())
		}
		if got, want := read(t, s, k.all()), k.standard(nil, k.all()); !bytes.Equal(got, want) {
			t.Errorf("%d: %x, not %x", k.number, got, want)
		}
	}
}

func TestNewOfOtherKinds(t *testing.T) {
	for _, number := range wrongNumbers {
		if s, e := keccak.New(number); s != nil || e != api.ErrKecKind {
			t.Errorf("%d: %v, %v", number, s, e)
		}
	}
}

func TestLeft(t *testing.T) {
	for _, k := range kinds {
		s := k.begin(t)
		left := func(want int) {
			t.Helper()
			if k.size == endless {
				want = endless
			}
			if s.Left() != want {
				t.Errorf("%d: %d left, not %d", k.number, s.Left(), want)
			}
		}
		write(t, s, sampleBytes(300))
		left(k.size)
		read(t, s, 0)
		left(k.size)
		for n := range 32 {
			read(t, s, 1)
			left(k.size - n - 1)
		}
		if k.size != endless {
			read(t, s, s.Left())
			left(0)
			continue
		}
		read(t, s, api.MaxSqueeze)
		left(endless)
	}
}

// P3.2: Write, Read.

func TestWriteAndRead(t *testing.T) {
	for _, k := range kinds {
		b := sampleBytes(3*k.rate + 3)
		for n := range len(b) + 1 {
			s := k.begin(t)
			for i := range n {
				write(t, s, b[i:i+1])
			}
			if got, want := read(t, s, k.all()), k.standard(b[:n], k.all()); !bytes.Equal(got, want) {
				t.Errorf("%d, %d bytes: %x, not %x", k.number, n, got, want)
			}
		}
	}
}

func TestWriteOfNothing(t *testing.T) {
	for _, k := range kinds {
		for _, n := range k.edges() {
			s := k.begin(t)
			write(t, s, nil)
			write(t, s, sampleBytes(n))
			write(t, s, []byte{})
			write(t, s, nil)
			if got, want := read(t, s, k.all()), k.standard(sampleBytes(n), k.all()); !bytes.Equal(got, want) {
				t.Errorf("%d, %d bytes: %x, not %x", k.number, n, got, want)
			}
		}
	}
}

// Behind a Read that was answered, of 0 bytes too, nothing is taken in, not even nothing.
func TestWriteBehindRead(t *testing.T) {
	for _, k := range kinds {
		want := k.standard(sampleBytes(50), k.all())
		for _, n := range []int{0, 1, 20, k.all() - 1, k.all()} {
			s := k.behind(t, sampleBytes(50))
			first := read(t, s, n)
			for _, b := range [][]byte{nil, {}, {0}, sampleBytes(k.rate), sampleBytes(1000)} {
				if e := s.Write(b); e != api.ErrKecPhase {
					t.Errorf("%d, %d read, %d bytes: %v", k.number, n, len(b), e)
				}
			}
			if got := append(first, read(t, s, k.all()-n)...); !bytes.Equal(got, want) {
				t.Errorf("%d, %d read: a refused Write changed what comes out: %x, not %x", k.number, n, got, want)
			}
		}
	}
}

func TestReadOfWrongCounts(t *testing.T) {
	for _, k := range kinds {
		want := k.standard(sampleBytes(60), k.all())
		s := k.begin(t)
		write(t, s, sampleBytes(50))
		for _, n := range wrongCounts {
			refusesRead(t, s, n, api.ErrArg)
		}
		// A refused Read doesn't end the taking in.
		write(t, s, sampleBytes(60)[50:])
		first := read(t, s, 10)
		for _, n := range wrongCounts {
			refusesRead(t, s, n, api.ErrArg)
		}
		if got := append(first, read(t, s, k.all()-10)...); !bytes.Equal(got, want) {
			t.Errorf("%d: a refused Read changed what comes out: %x, not %x", k.number, got, want)
		}
	}
}

func TestReadOfMoreThanIsLeft(t *testing.T) {
	for _, k := range kinds[:3] {
		want := k.standard(sampleBytes(60), k.size)
		for _, n := range []int{0, 1, 20, k.size - 1, k.size} {
			s := k.begin(t)
			write(t, s, sampleBytes(50))
			for _, more := range []int{k.size + 1, k.rate, k.rate + 1, api.MaxSqueeze} {
				refusesRead(t, s, more, api.ErrKecSpent)
			}
			write(t, s, sampleBytes(60)[50:])
			first := read(t, s, n)
			for _, more := range []int{k.size - n + 1, k.size - n + 2, k.size + 1, api.MaxSqueeze} {
				refusesRead(t, s, more, api.ErrKecSpent)
			}
			for _, more := range wrongCounts {
				refusesRead(t, s, more, api.ErrArg)
			}
			if s.Left() != k.size-n {
				t.Errorf("%d, %d read: %d left", k.number, n, s.Left())
			}
			if got := append(first, read(t, s, k.size-n)...); !bytes.Equal(got, want) {
				t.Errorf("%d, %d read: %x, not %x", k.number, n, got, want)
			}
		}
	}
}

func TestReadOfSpent(t *testing.T) {
	for _, k := range kinds[:3] {
		s := k.begin(t)
		read(t, s, k.size)
		for range 3 {
			refusesRead(t, s, 1, api.ErrKecSpent)
			refusesRead(t, s, k.size, api.ErrKecSpent)
			read(t, s, 0)
			if s.Left() != 0 {
				t.Errorf("%d: %d left", k.number, s.Left())
			}
		}
		if e := s.Write(nil); e != api.ErrKecPhase {
			t.Errorf("%d: %v", k.number, e)
		}
	}
}

// Of those without end, more comes out than may be asked for in one call.
func TestReadWithoutEnd(t *testing.T) {
	for _, k := range kinds[3:] {
		for _, n := range []int{0, 1, k.rate - 1, k.rate, k.rate + 1, 12345} {
			s := k.behind(t, sampleBytes(n))
			var got []byte
			for range 3 {
				got = append(got, read(t, s, api.MaxSqueeze)...)
			}
			got = append(got, read(t, s, api.MaxSqueeze-1)...)
			got = append(got, read(t, s, 1)...)
			if !bytes.Equal(got, k.standard(sampleBytes(n), 4*api.MaxSqueeze)) {
				t.Errorf("%d, %d bytes: not the library's", k.number, n)
			}
		}
	}
}

// P3.2: Copy.

func TestCopyOfTakingIn(t *testing.T) {
	for _, k := range kinds {
		for _, n := range k.edges() {
			b := sampleBytes(n + 2*k.rate)
			s := k.behind(t, b[:n])
			c := s.Copy()
			if c == nil || c == s || c.Left() != k.size {
				t.Fatalf("%d, %d bytes: %v", k.number, n, c)
			}
			write(t, c, b[n:])
			write(t, s, []byte("other"))
			other := append(bytes.Clone(b[:n]), "other"...)
			if got, want := read(t, s, k.all()), k.standard(other, k.all()); !bytes.Equal(got, want) {
				t.Errorf("%d, %d bytes, the first: %x, not %x", k.number, n, got, want)
			}
			if got, want := read(t, c, k.all()), k.standard(b, k.all()); !bytes.Equal(got, want) {
				t.Errorf("%d, %d bytes, the copy: %x, not %x", k.number, n, got, want)
			}
		}
	}
}

func TestCopyOfGivingOut(t *testing.T) {
	for _, k := range kinds {
		want := k.standard(sampleBytes(200), k.all())
		for n := range k.all() + 1 {
			s := k.behind(t, sampleBytes(200))
			first := read(t, s, n)
			c := s.Copy()
			if e := c.Write(nil); e != api.ErrKecPhase {
				t.Errorf("%d, %d read: %v", k.number, n, e)
			}
			rest := read(t, s, k.all()-n)
			if k.size != endless && (s.Left() != 0 || c.Left() != k.size-n) {
				t.Errorf("%d, %d read: %d and %d left", k.number, n, s.Left(), c.Left())
			}
			again := read(t, c, k.all()-n)
			if !bytes.Equal(append(bytes.Clone(first), rest...), want) || !bytes.Equal(append(first, again...), want) {
				t.Errorf("%d, %d read: %x, %x", k.number, n, rest, again)
			}
		}
	}
}

// What is done to a copy does not end what the first one takes in, nor the other way round.
func TestCopyGoesOnByItself(t *testing.T) {
	for _, k := range kinds {
		s := k.behind(t, sampleBytes(10))
		c := s.Copy()
		read(t, c, k.all())
		write(t, s, sampleBytes(20)[10:])
		d := s.Copy()
		read(t, s, 0)
		write(t, d, sampleBytes(30)[20:])
		if got, want := read(t, d, k.all()), k.standard(sampleBytes(30), k.all()); !bytes.Equal(got, want) {
			t.Errorf("%d: %x, not %x", k.number, got, want)
		}
		if got, want := read(t, s, k.all()), k.standard(sampleBytes(20), k.all()); !bytes.Equal(got, want) {
			t.Errorf("%d: %x, not %x", k.number, got, want)
		}
	}
}

// P3.3: however it is cut.

func TestTwoPieces(t *testing.T) {
	for _, k := range kinds {
		b := sampleBytes(2*k.rate + 9)
		want := k.standard(b, k.all())
		for cut := range len(b) + 1 {
			s := k.behind(t, b[:cut])
			write(t, s, b[cut:])
			if got := read(t, s, k.all()); !bytes.Equal(got, want) {
				t.Errorf("%d, cut at %d: %x, not %x", k.number, cut, got, want)
			}
		}
		for cut := range len(want) + 1 {
			s := k.behind(t, b)
			first := read(t, s, cut)
			if got := append(first, read(t, s, len(want)-cut)...); !bytes.Equal(got, want) {
				t.Errorf("%d, read cut at %d: %x, not %x", k.number, cut, got, want)
			}
		}
	}
}

func TestEqualPieces(t *testing.T) {
	for _, k := range kinds {
		b := sampleBytes(4*k.rate + 3)
		want := k.standard(b, k.all())
		for size := 1; size <= 2*k.rate+1; size++ {
			s := k.begin(t)
			for piece := range slices.Chunk(b, size) {
				write(t, s, piece)
			}
			var got []byte
			for len(got) < len(want) {
				got = append(got, read(t, s, min(size, len(want)-len(got)))...)
			}
			if !bytes.Equal(got, want) {
				t.Errorf("%d, pieces of %d: %x, not %x", k.number, size, got, want)
			}
		}
	}
}

func TestUnequalPieces(t *testing.T) {
	for _, k := range kinds {
		for seed := range 30 {
			b := sampleBytes(2000 + seed)
			want := k.standard(b, k.all())
			size := uint32(seed)
			next := func(most int) int {
				size = size*1664525 + 1013904223
				return min(int(size>>24), most)
			}
			s := k.begin(t)
			for from := 0; from < len(b); {
				n := next(len(b) - from)
				write(t, s, b[from:from+n])
				from += n
			}
			var got []byte
			for len(got) < len(want) {
				got = append(got, read(t, s, next(len(want)-len(got)))...)
			}
			if !bytes.Equal(got, want) {
				t.Errorf("%d, seed %d: %x, not %x", k.number, seed, got, want)
			}
		}
	}
}

func TestFewerBytesAreTheBeginning(t *testing.T) {
	for _, k := range kinds {
		b := sampleBytes(77)
		whole := read(t, k.behind(t, b), k.all())
		for n := range len(whole) + 1 {
			if got := read(t, k.behind(t, b), n); !bytes.Equal(got, whole[:n]) {
				t.Errorf("%d, %d read: %x, not %x", k.number, n, got, whole[:n])
			}
			if k.size != endless {
				continue
			}
			if got, e := keccak.Shake(k.number, b, n); !bytes.Equal(got, whole[:n]) || e != api.OK {
				t.Errorf("%d, %d asked: %x, %v, not %x", k.number, n, got, e, whole[:n])
			}
		}
	}
}

func TestAtOnceAndByPieces(t *testing.T) {
	for _, n := range []int{0, 1, 71, 72, 73, 135, 136, 137, 167, 168, 169, 500} {
		b := sampleBytes(n)
		short, long := keccak.Sum256(b), keccak.Sum512(b)
		if got := read(t, kinds[0].behind(t, b), 32); !bytes.Equal(got, short[:]) {
			t.Errorf("%d bytes: %x, not %x", n, got, short)
		}
		if got := read(t, kinds[2].behind(t, b), 64); !bytes.Equal(got, long[:]) {
			t.Errorf("%d bytes: %x, not %x", n, got, long)
		}
	}
}

// P3.3: no two states have one Permute.

// unpermuted is the state whose Permute is s: the chapter's steps taken back, the last one first.
func unpermuted(s [25]uint64) [25]uint64 {
	o := offsets()
	for r := 23; r >= 0; r-- {
		s[0] ^= roundConstant(r)
		var back [25]uint64
		mixed := unmixedRows(s)
		places(func(x, y int) { back[x+5*y] = bits.RotateLeft64(mixed[y+5*((2*x+3*y)%5)], -o[x][y]) })
		shares := sharesOf(sumsAhead(sumsOf(back)))
		places(func(x, y int) { back[x+5*y] ^= shares[x] })
		s = back
	}
	return s
}

// unmixedRows takes the fourth step back: of the 32 rows of five bits each is made of one alone.
func unmixedRows(s [25]uint64) [25]uint64 {
	var rowOf [32]uint64
	for row := range uint64(32) {
		var mixed uint64
		for x := range 5 {
			bit := func(i int) uint64 { return row >> (i % 5) & 1 }
			mixed |= (bit(x) ^ (1^bit(x+1))&bit(x+2)) << x
		}
		rowOf[mixed] = row
	}
	var back [25]uint64
	for y := range 5 {
		for z := range 64 {
			var mixed uint64
			for x := range 5 {
				mixed |= s[x+5*y] >> z & 1 << x
			}
			for x := range 5 {
				back[x+5*y] |= rowOf[mixed] >> x & 1 << z
			}
		}
	}
	return back
}

// sumsAhead are the sums ahead of the first step, by those behind it: they come round behind 192 steps.
func sumsAhead(c [5]uint64) [5]uint64 {
	for range 191 {
		for x, share := range sharesOf(c) {
			c[x] ^= share
		}
	}
	return c
}

func TestPermuteIsTakenBack(t *testing.T) {
	for _, s := range sampleStates() {
		if got := unpermuted(keccak.Permute(s)); got != s {
			t.Fatalf("%x: taken back: %x", s, got)
		}
		if got := keccak.Permute(unpermuted(s)); got != s {
			t.Fatalf("%x: of what was taken back: %x", s, got)
		}
	}
}

func TestPermutesAreApart(t *testing.T) {
	seen := map[[25]uint64][25]uint64{}
	look := func(s [25]uint64) {
		p := keccak.Permute(s)
		if other, ok := seen[p]; ok && other != s {
			t.Fatalf("%x and %x have one Permute", s, other)
		}
		seen[p] = s
	}
	s := [25]uint64{3: 5}
	for _, other := range sampleStates() {
		look(other)
	}
	// Far along, and with but one bit changed there.
	for range 500 {
		s = keccak.Permute(s)
		look(s)
		for i := range s {
			s[i] ^= 1 << 17
			look(s)
			s[i] ^= 1 << 17
		}
	}
}

// Rule 4: arguments and answers.

func TestArgumentsAreNotKept(t *testing.T) {
	for _, k := range kinds {
		for _, n := range k.edges() {
			room := sampleBytes(n + 2*k.rate)
			b := room[:n]
			s := k.behind(t, b)
			keccak.Sum256(b)
			keccak.Sum512(b)
			keccak.Shake(k.number, b, 10)
			if !bytes.Equal(room, sampleBytes(n+2*k.rate)) {
				t.Errorf("%d, %d bytes: an argument, or what lies behind it, was written into", k.number, n)
			}
			clear(room)
			if got, want := read(t, s, k.all()), k.standard(sampleBytes(n), k.all()); !bytes.Equal(got, want) {
				t.Errorf("%d, %d bytes: Write kept its argument", k.number, n)
			}
		}
	}
}

func TestWhatLiesBehindAnArgument(t *testing.T) {
	room := sampleBytes(600)
	for _, k := range kinds {
		for _, n := range k.edges() {
			if got, want := read(t, k.behind(t, room[:n]), k.all()), k.standard(sampleBytes(n), k.all()); !bytes.Equal(got, want) {
				t.Errorf("%d, %d bytes: what lies behind them was read", k.number, n)
			}
		}
	}
	for n := range 300 {
		if keccak.Sum256(room[:n]) != sha3.Sum256(sampleBytes(n)) || keccak.Sum512(room[:n]) != sha3.Sum512(sampleBytes(n)) {
			t.Errorf("%d bytes: what lies behind them was read", n)
		}
	}
}

func TestAnswersAreNewMemory(t *testing.T) {
	for _, k := range kinds {
		want := k.standard(sampleBytes(40), k.all())
		s := k.behind(t, sampleBytes(40))
		c := s.Copy()
		first := read(t, s, 8)
		kept := bytes.Clone(first)
		second := read(t, s, 8)
		if !bytes.Equal(first, kept) {
			t.Errorf("%d: a Read wrote into the answer of another", k.number)
		}
		got := append(bytes.Clone(first), second...)
		clear(first[:cap(first)])
		if !bytes.Equal(second, got[8:]) {
			t.Errorf("%d: two answers share memory", k.number)
		}
		clear(second[:cap(second)])
		got = append(got, read(t, s, k.all()-16)...)
		if !bytes.Equal(got, want) || !bytes.Equal(read(t, c, k.all()), want) {
			t.Errorf("%d: an answer shares the sponge's memory", k.number)
		}
	}
}

// Rule 10: a nil sponge.

func TestNil(t *testing.T) {
	var s *keccak.Sponge
	for _, b := range [][]byte{nil, {}, {1}, make([]byte, 500)} {
		if e := s.Write(b); e != api.ErrArg {
			t.Errorf("Write of %d bytes: %v", len(b), e)
		}
	}
	for _, n := range append([]int{0, 1, 32, api.MaxSqueeze}, wrongCounts...) {
		refusesRead(t, s, n, api.ErrArg)
	}
	if s.Left() != 0 || s.Copy() != nil {
		t.Errorf("%d, %v", s.Left(), s.Copy())
	}
}

// P1: a sponge that no call gave ends and doesn't panic either.
func TestSpongeThatWasNotBegun(t *testing.T) {
	for _, n := range []int{0, 1, 135, 136, 137, 1000} {
		var s keccak.Sponge
		s.Copy().Write(sampleBytes(n))
		s.Write(sampleBytes(n))
		s.Read(n)
		s.Read(0)
		s.Write(sampleBytes(n))
		s.Left()
	}
}

// P2: answers hang on nothing else.

func TestSpongesAreApart(t *testing.T) {
	for _, k := range kinds {
		a, b := k.begin(t), k.begin(t)
		write(t, a, sampleBytes(100))
		read(t, a, 5)
		if b.Left() != k.size {
			t.Errorf("%d: %d left", k.number, b.Left())
		}
		for _, other := range kinds {
			read(t, other.behind(t, sampleBytes(7)), 11)
		}
		write(t, b, sampleBytes(30))
		if got, want := read(t, b, k.all()), k.standard(sampleBytes(30), k.all()); !bytes.Equal(got, want) {
			t.Errorf("%d, the second: %x, not %x", k.number, got, want)
		}
		if got, want := read(t, a, k.all()-5), k.standard(sampleBytes(100), k.all())[5:]; !bytes.Equal(got, want) {
			t.Errorf("%d, the first: %x, not %x", k.number, got, want)
		}
	}
}

// The chapter's examples that are not looked at above.
func TestExamples(t *testing.T) {
	s, e := keccak.New(keccak.Sha256)
	if s == nil || e != api.OK || s.Left() != 32 {
		t.Fatalf("%v, %v", s, e)
	}
	if b := read(t, s, 20); !strings.HasPrefix(hex.EncodeToString(b), "a7ffc6f8") {
		t.Errorf("%x", b)
	}
	if s.Left() != 12 {
		t.Errorf("%d left", s.Left())
	}
	refusesRead(t, s, 20, api.ErrKecSpent)
	if e := s.Write(nil); e != api.ErrKecPhase {
		t.Errorf("%v", e)
	}
	if b, e := keccak.Shake(keccak.Sha256, nil, 1); len(b) != 0 || e != api.ErrKecKind {
		t.Errorf("%x, %v", b, e)
	}
	if b, e := keccak.Shake(keccak.Shake128, nil, 65537); len(b) != 0 || e != api.ErrArg {
		t.Errorf("%d bytes, %v", len(b), e)
	}
}
