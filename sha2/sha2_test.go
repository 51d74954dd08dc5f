package sha2_test

import (
	"bytes"
	"crypto/sha256"
	"crypto/sha512"
	"encoding"
	"encoding/binary"
	"encoding/hex"
	"hash"
	"math"
	"math/big"
	"slices"
	"strings"
	"testing"

	"barbican/api"
	"barbican/sha2"
)

const maxLen = 1<<61 - 1

// A kind is what the chapter's table says of one, and the library's way to the same digest.
type kind struct {
	bits, first, block, word, digest int
	standard                         func() hash.Hash
	magic                            string // ahead of what the library's hash reads back
}

var kinds = []kind{
	{256, 1, 64, 4, 32, sha256.New, "sha\x03"},
	{384, 2, 128, 8, 48, sha512.New384, "sha\x04"},
	{512, 3, 128, 8, 64, sha512.New, "sha\x07"},
}

// digestOf is the library's digest.
func (k kind) digestOf(b []byte) []byte {
	h := k.standard()
	h.Write(b)
	return h.Sum(nil)
}

// sumOf is the program's digest of a message at once.
func (k kind) sumOf(b []byte) []byte {
	switch k.bits {
	case 256:
		d := sha2.Sum256(b)
		return d[:]
	case 384:
		d := sha2.Sum384(b)
		return d[:]
	}
	d := sha2.Sum512(b)
	return d[:]
}

// begin is a new hash.
func (k kind) begin(t *testing.T) *sha2.Hash {
	t.Helper()
	h, e := sha2.New(k.bits)
	if h == nil || e != api.OK {
		t.Fatalf("New(%d): %v, %v", k.bits, h, e)
	}
	return h
}

// stateOf is a state of sample words, of that length, with such bytes behind the whole blocks.
func (k kind) stateOf(taken uint64, rest []byte) []byte {
	b := binary.BigEndian.AppendUint64([]byte{byte(k.first)}, taken)
	b = append(b, sampleBytes(8*k.word)...)
	return append(b, rest...)
}

// continued is the library's digest, gone on with from a state.
func (k kind) continued(t *testing.T, state, more []byte) []byte {
	t.Helper()
	taken := binary.BigEndian.Uint64(state[1:])
	words, rest := state[9:9+8*k.word], state[9+8*k.word:]
	b := append([]byte(k.magic), words...)
	b = append(b, rest...)
	b = append(b, make([]byte, k.block-len(rest))...)
	b = binary.BigEndian.AppendUint64(b, taken)
	h := k.standard()
	if err := h.(encoding.BinaryUnmarshaler).UnmarshalBinary(b); err != nil {
		t.Fatal(err)
	}
	h.Write(more)
	return h.Sum(nil)
}

// sampleBytes are n bytes that follow no short pattern, the same ones in each run.
func sampleBytes(n int) []byte {
	b := make([]byte, n)
	state := uint32(1)
	for i := range b {
		state = state*1664525 + 1013904223
		b[i] = byte(state >> 24)
	}
	return b
}

func write(t *testing.T, h *sha2.Hash, b []byte) {
	t.Helper()
	if e := h.Write(b); e != api.OK {
		t.Fatalf("Write of %d bytes: %v", len(b), e)
	}
}

// reopened is the hash that Open gives of h's state.
func reopened(t *testing.T, h *sha2.Hash) *sha2.Hash {
	t.Helper()
	g, e := sha2.Open(h.State())
	if g == nil || e != api.OK {
		t.Fatalf("Open of a state of %d bytes: %v", len(h.State()), e)
	}
	return g
}

// P2.1: the three digests.

func TestDigests(t *testing.T) {
	for _, k := range kinds {
		b := sampleBytes(5 * k.block)
		for n := range b {
			if got, want := k.sumOf(b[:n]), k.digestOf(b[:n]); !bytes.Equal(got, want) {
				t.Errorf("%d, %d bytes: %x, not %x", k.bits, n, got, want)
			}
		}
	}
}

func TestDigestsOfEqualBytes(t *testing.T) {
	for _, k := range kinds {
		for _, x := range []byte{0, 1, 127, 128, 255} {
			for _, n := range []int{1, k.block - 1, k.block, 3 * k.block} {
				b := bytes.Repeat([]byte{x}, n)
				if got, want := k.sumOf(b), k.digestOf(b); !bytes.Equal(got, want) {
					t.Errorf("%d, %d bytes %d: %x, not %x", k.bits, n, x, got, want)
				}
			}
		}
	}
}

// The lengths where the length just fits the last block, and where it just does not.
func TestDigestsAboutTheLength(t *testing.T) {
	for _, k := range kinds {
		for blocks := range 20 {
			for _, n := range []int{k.block - 2*k.word - 2, k.block - 2*k.word - 1, k.block - 2*k.word, k.block - 1, k.block, k.block + 1} {
				b := sampleBytes(blocks*k.block + n)
				if got, want := k.sumOf(b), k.digestOf(b); !bytes.Equal(got, want) {
					t.Errorf("%d, %d bytes: %x, not %x", k.bits, len(b), got, want)
				}
			}
		}
	}
}

func TestDigestsOfTheChapter(t *testing.T) {
	for _, c := range []struct {
		kind    kind
		message string
		want    string
	}{
		{kinds[0], "", "e3b0c44298fc1c149afbf4c8996fb92427ae41e4649b934ca495991b7852b855"},
		{kinds[0], "abc", "ba7816bf8f01cfea414140de5dae2223b00361a396177a9cb410ff61f20015ad"},
		{kinds[2], "abc", "ddaf35a193617aba"},
		{kinds[1], "abc", "cb00753f45a35e8b"},
	} {
		got := c.kind.sumOf([]byte(c.message))
		if len(got) != c.kind.digest || !strings.HasPrefix(hex.EncodeToString(got), c.want) {
			t.Errorf("%d of %q: %x", c.kind.bits, c.message, got)
		}
	}
}

func TestDigestsOfALongMessage(t *testing.T) {
	b := bytes.Repeat([]byte("a"), 1000000)
	for i, want := range []string{
		"cdc76e5c9914fb9281a1c7e284d73e67f1809a48a497200e046d39ccc7112cd0",
		"9d0e1809716474cb086e834e310a4a1ced149e9c00f248527972cec5704c2a5b07b8b3dc38ecc4ebae97ddd87f3d8985",
		"e718483d0ce769644e2e42c7bc15b4638e1f98b13b2044285632a803afa973ebde0ff244877ea60a4cb0432ce577c31beb009c5c2c49aa2e4eadb217ad8cc09b",
	} {
		if got := hex.EncodeToString(kinds[i].sumOf(b)); got != want {
			t.Errorf("%d: %s", kinds[i].bits, got)
		}
	}
}

// P2.2: New, Write, Len, Sum, Reset.

func TestNew(t *testing.T) {
	for _, k := range kinds {
		h := k.begin(t)
		if h.Len() != 0 || !bytes.Equal(h.Sum(), k.digestOf(nil)) {
			t.Errorf("%d: %d taken in, %x", k.bits, h.Len(), h.Sum())
		}
	}
}

func TestNewOfOtherKinds(t *testing.T) {
	for _, bits := range []int{0, 1, 2, 3, 32, 64, 128, 160, 224, 255, 257, 383, 385, 511, 513, 1024, -256, -384, -512, 256 + 1<<32, math.MaxInt, math.MinInt} {
		if h, e := sha2.New(bits); h != nil || e != api.ErrShaKind {
			t.Errorf("%d: %v, %v", bits, h, e)
		}
	}
}

func TestWrite(t *testing.T) {
	for _, k := range kinds {
		b := sampleBytes(4*k.block + 5)
		h := k.begin(t)
		for i := range b {
			write(t, h, b[i:i+1])
			if h.Len() != uint64(i+1) {
				t.Errorf("%d: Len %d behind %d bytes", k.bits, h.Len(), i+1)
			}
			if want := k.digestOf(b[:i+1]); !bytes.Equal(h.Sum(), want) {
				t.Errorf("%d, %d bytes: %x, not %x", k.bits, i+1, h.Sum(), want)
			}
		}
	}
}

func TestWriteOfNothing(t *testing.T) {
	for _, k := range kinds {
		for _, n := range []int{0, 1, k.block - 1, k.block} {
			h := k.begin(t)
			write(t, h, sampleBytes(n))
			before := h.State()
			write(t, h, nil)
			write(t, h, []byte{})
			if !bytes.Equal(h.State(), before) {
				t.Errorf("%d, %d bytes: changed", k.bits, n)
			}
		}
	}
}

// The last length that is taken in, and the first that is not.
func TestWriteOfTooMuch(t *testing.T) {
	for _, k := range kinds {
		for _, room := range []uint64{0, 1, 2, uint64(k.block) - 1, uint64(k.block), uint64(k.block) + 1, 1000} {
			taken := uint64(maxLen - room)
			state := k.stateOf(taken, sampleBytes(int(taken%uint64(k.block))))
			h, e := sha2.Open(state)
			if e != api.OK {
				t.Fatalf("%d, room %d: %v", k.bits, room, e)
			}
			for _, more := range []uint64{1, 2, 100, 100000} {
				if e := h.Write(make([]byte, room+more)); e != api.ErrShaLong {
					t.Errorf("%d, room %d, %d more: %v", k.bits, room, more, e)
				}
			}
			if !bytes.Equal(h.State(), state) {
				t.Errorf("%d, room %d: a refused Write changed the hash", k.bits, room)
			}
			fill := sampleBytes(int(room))
			write(t, h, fill)
			if h.Len() != maxLen || !bytes.Equal(h.Sum(), k.continued(t, state, fill)) {
				t.Errorf("%d, room %d: %d, %x", k.bits, room, h.Len(), h.Sum())
			}
			write(t, h, nil)
			if e := h.Write([]byte{0}); e != api.ErrShaLong {
				t.Errorf("%d, room %d, full: %v", k.bits, room, e)
			}
		}
	}
}

func TestSumChangesNothing(t *testing.T) {
	for _, k := range kinds {
		for n := range 2*k.block + 1 {
			b := sampleBytes(n + 10)
			h := k.begin(t)
			write(t, h, b[:n])
			before := h.State()
			first, second := h.Sum(), h.Sum()
			if !bytes.Equal(first, second) || !bytes.Equal(h.State(), before) || h.Len() != uint64(n) {
				t.Errorf("%d, %d bytes: changed", k.bits, n)
			}
			write(t, h, b[n:])
			if !bytes.Equal(h.Sum(), k.digestOf(b)) {
				t.Errorf("%d, %d bytes, Sum, 10 bytes: %x", k.bits, n, h.Sum())
			}
		}
	}
}

func TestReset(t *testing.T) {
	for _, k := range kinds {
		fresh := k.begin(t).State()
		for _, n := range []int{0, 1, k.block - 1, k.block, k.block + 1, 5*k.block + 7} {
			h := k.begin(t)
			write(t, h, sampleBytes(n))
			h.Reset()
			if h.Len() != 0 || !bytes.Equal(h.State(), fresh) || !bytes.Equal(h.Sum(), k.digestOf(nil)) {
				t.Errorf("%d, %d bytes: %d, %x", k.bits, n, h.Len(), h.State())
			}
			write(t, h, sampleBytes(99))
			if !bytes.Equal(h.Sum(), k.digestOf(sampleBytes(99))) {
				t.Errorf("%d, %d bytes, Reset: %x", k.bits, n, h.Sum())
			}
		}
	}
}

func TestResetBehindOpen(t *testing.T) {
	for _, k := range kinds {
		h, e := sha2.Open(k.stateOf(maxLen, sampleBytes(k.block-1)))
		if e != api.OK {
			t.Fatal(e)
		}
		h.Reset()
		if !bytes.Equal(h.State(), k.begin(t).State()) {
			t.Errorf("%d: %x", k.bits, h.State())
		}
	}
}

// P2.3: State, Open.

// firstState are the upper bits of the square roots behind their points, of the primes of a kind.
func (k kind) firstState() []byte {
	primes := []int64{2, 3, 5, 7, 11, 13, 17, 19}
	if k.bits == 384 {
		primes = []int64{23, 29, 31, 37, 41, 43, 47, 53}
	}
	var b []byte
	for _, p := range primes {
		scaled := new(big.Int).Lsh(big.NewInt(p), uint(16*k.word))
		root := scaled.Sqrt(scaled)
		whole := new(big.Int).Lsh(big.NewInt(1), uint(8*k.word))
		b = append(b, root.Mod(root, whole).FillBytes(make([]byte, k.word))...)
	}
	return b
}

func TestStateOfNothing(t *testing.T) {
	for _, k := range kinds {
		want := append([]byte{byte(k.first), 0, 0, 0, 0, 0, 0, 0, 0}, k.firstState()...)
		if got := k.begin(t).State(); !bytes.Equal(got, want) {
			t.Errorf("%d: %x, not %x", k.bits, got, want)
		}
	}
	want := "010000000000000000" + "6a09e667bb67ae853c6ef372a54ff53a510e527f9b05688c1f83d9ab5be0cd19"
	if got := hex.EncodeToString(kinds[0].begin(t).State()); got != want {
		t.Errorf("the chapter's: %s", got)
	}
}

// wordsBehind are the library's words behind the whole blocks of a message.
func (k kind) wordsBehind(t *testing.T, b []byte) []byte {
	t.Helper()
	h := k.standard()
	h.Write(b)
	kept, err := h.(encoding.BinaryMarshaler).MarshalBinary()
	if err != nil {
		t.Fatal(err)
	}
	return kept[len(k.magic):][:8*k.word]
}

func TestState(t *testing.T) {
	for _, k := range kinds {
		for n := range 3*k.block + 2 {
			b := sampleBytes(n)
			h := k.begin(t)
			write(t, h, b)
			want := binary.BigEndian.AppendUint64([]byte{byte(k.first)}, uint64(n))
			want = append(want, k.wordsBehind(t, b)...)
			want = append(want, b[n-n%k.block:]...)
			if got := h.State(); !bytes.Equal(got, want) {
				t.Errorf("%d, %d bytes: %x, not %x", k.bits, n, got, want)
			}
		}
	}
}

func TestOpen(t *testing.T) {
	for _, k := range kinds {
		for _, taken := range []uint64{0, 1, 55, 56, 63, 64, 65, 111, 112, 127, 128, 1000, 1 << 29, 1<<32 - 1, 1 << 32, 1<<53 + 7, 1<<60 + 1, maxLen - 300, maxLen - 128, maxLen - 64, maxLen} {
			state := k.stateOf(taken, sampleBytes(int(taken%uint64(k.block))))
			h, e := sha2.Open(state)
			if h == nil || e != api.OK {
				t.Errorf("%d, %d: %v", k.bits, taken, e)
				continue
			}
			if h.Len() != taken || !bytes.Equal(h.State(), state) {
				t.Errorf("%d, %d: %d, %x, not %x", k.bits, taken, h.Len(), h.State(), state)
			}
			if want := k.continued(t, state, nil); !bytes.Equal(h.Sum(), want) {
				t.Errorf("%d, %d: %x, not %x", k.bits, taken, h.Sum(), want)
			}
			if taken > maxLen-200 {
				continue
			}
			more := sampleBytes(200)
			write(t, h, more)
			if want := k.continued(t, state, more); h.Len() != taken+200 || !bytes.Equal(h.Sum(), want) {
				t.Errorf("%d, %d and 200: %d, %x, not %x", k.bits, taken, h.Len(), h.Sum(), want)
			}
		}
	}
}

// Any words will do.
func TestOpenOfAnyWords(t *testing.T) {
	for _, k := range kinds {
		for _, x := range []byte{0, 1, 127, 128, 255} {
			state := binary.BigEndian.AppendUint64([]byte{byte(k.first)}, 3)
			state = append(state, bytes.Repeat([]byte{x}, 8*k.word)...)
			state = append(state, "abc"...)
			h, e := sha2.Open(state)
			if e != api.OK {
				t.Fatalf("%d, words of %d: %v", k.bits, x, e)
			}
			if !bytes.Equal(h.State(), state) || !bytes.Equal(h.Sum(), k.continued(t, state, nil)) {
				t.Errorf("%d, words of %d: %x, %x", k.bits, x, h.State(), h.Sum())
			}
		}
	}
}

func refuses(t *testing.T, what string, state []byte) {
	t.Helper()
	// Once with room behind its length, once without: neither may be read.
	for _, b := range [][]byte{append(state, make([]byte, 200)...)[:len(state)], slices.Clip(state)} {
		if h, e := sha2.Open(b); h != nil || e != api.ErrShaForm {
			t.Errorf("%s, %d bytes: %v, %v", what, len(b), h, e)
		}
	}
}

func TestOpenOfWrongSizes(t *testing.T) {
	for _, k := range kinds {
		for _, taken := range []uint64{0, 1, uint64(k.block) - 1, uint64(k.block), maxLen} {
			right := k.stateOf(taken, sampleBytes(int(taken%uint64(k.block))))
			for n := range len(right) + 2*k.block {
				if n == len(right) {
					continue
				}
				refuses(t, "a wrong size", append(bytes.Clone(right), make([]byte, 2*k.block)...)[:n])
			}
		}
	}
}

func TestOpenOfOtherKinds(t *testing.T) {
	refuses(t, "nothing", nil)
	refuses(t, "nothing", []byte{})
	refuses(t, "a byte 4", []byte{4})
	for first := range 256 {
		if first >= 1 && first <= 3 {
			continue
		}
		for _, words := range []int{0, 32, 64} {
			refuses(t, "an unknown kind", append([]byte{byte(first)}, make([]byte, 8+words)...))
		}
	}
}

// Each kind has words of its own size.
func TestOpenOfAnotherKindsWords(t *testing.T) {
	refuses(t, "words of 64 bits", append([]byte{1}, make([]byte, 8+64)...))
	refuses(t, "words of 32 bits", append([]byte{2}, make([]byte, 8+32)...))
	refuses(t, "words of 32 bits", append([]byte{3}, make([]byte, 8+32)...))
}

func TestOpenOfTooLong(t *testing.T) {
	for _, k := range kinds {
		for _, taken := range []uint64{maxLen + 1, maxLen + 2, maxLen + 130, 1 << 62, 1<<63 - 1, 1 << 63, math.MaxUint64} {
			refuses(t, "too long", k.stateOf(taken, sampleBytes(int(taken%uint64(k.block)))))
		}
	}
}

// P2.4: however a message is cut.

func TestTwoPieces(t *testing.T) {
	for _, k := range kinds {
		b := sampleBytes(2*k.block + 9)
		want := k.digestOf(b)
		for cut := range len(b) + 1 {
			h := k.begin(t)
			write(t, h, b[:cut])
			g := reopened(t, h)
			write(t, h, b[cut:])
			write(t, g, b[cut:])
			if !bytes.Equal(h.Sum(), want) || !bytes.Equal(g.Sum(), want) {
				t.Errorf("%d, cut at %d: %x, %x, not %x", k.bits, cut, h.Sum(), g.Sum(), want)
			}
		}
	}
}

func TestEqualPieces(t *testing.T) {
	for _, k := range kinds {
		b := sampleBytes(4*k.block + 3)
		want := k.digestOf(b)
		for size := 1; size <= 3*k.block; size++ {
			h, g := k.begin(t), k.begin(t)
			for from := 0; from < len(b); from += size {
				piece := b[from:min(from+size, len(b))]
				write(t, h, piece)
				g = reopened(t, g)
				write(t, g, piece)
			}
			if !bytes.Equal(h.Sum(), want) || !bytes.Equal(g.Sum(), want) {
				t.Errorf("%d, pieces of %d: %x, %x, not %x", k.bits, size, h.Sum(), g.Sum(), want)
			}
		}
	}
}

func TestUnequalPieces(t *testing.T) {
	for _, k := range kinds {
		for seed := range 30 {
			b := sampleBytes(2000 + seed)
			h := k.begin(t)
			size := uint32(seed)
			for from := 0; from < len(b); {
				size = size*1664525 + 1013904223
				n := min(int(size>>24), len(b)-from)
				write(t, h, b[from:from+n])
				from += n
				if size>>16&1 == 1 {
					h = reopened(t, h)
				}
			}
			if h.Len() != uint64(len(b)) || !bytes.Equal(h.Sum(), k.digestOf(b)) {
				t.Errorf("%d, seed %d: %d, %x", k.bits, seed, h.Len(), h.Sum())
			}
		}
	}
}

func TestStateOfOpenIsTheState(t *testing.T) {
	for _, k := range kinds {
		for n := range 2*k.block + 2 {
			h := k.begin(t)
			write(t, h, sampleBytes(n))
			if got := reopened(t, h).State(); !bytes.Equal(got, h.State()) {
				t.Errorf("%d, %d bytes: %x, not %x", k.bits, n, got, h.State())
			}
		}
	}
}

// Rule 4: arguments and answers.

func TestArgumentsAreNotKept(t *testing.T) {
	for _, k := range kinds {
		for _, n := range []int{1, k.block - 1, k.block, k.block + 1} {
			b := sampleBytes(n)
			h := k.begin(t)
			write(t, h, b)
			if !bytes.Equal(b, sampleBytes(n)) {
				t.Errorf("%d, %d bytes: Write wrote into its argument", k.bits, n)
			}
			clear(b)
			if !bytes.Equal(h.Sum(), k.digestOf(sampleBytes(n))) {
				t.Errorf("%d, %d bytes: Write kept its argument", k.bits, n)
			}
			state := h.State()
			g, e := sha2.Open(state)
			if e != api.OK || !bytes.Equal(state, h.State()) {
				t.Errorf("%d, %d bytes: Open wrote into its argument, or %v", k.bits, n, e)
			}
			clear(state)
			if !bytes.Equal(g.State(), h.State()) {
				t.Errorf("%d, %d bytes: Open kept its argument", k.bits, n)
			}
		}
	}
}

func TestWhatLiesBehindAnArgument(t *testing.T) {
	for _, k := range kinds {
		room := sampleBytes(6 * k.block)
		for _, n := range []int{0, 1, k.block - 2*k.word - 1, k.block - 1, k.block, k.block + 1} {
			want := k.digestOf(sampleBytes(n))
			h := k.begin(t)
			write(t, h, room[:n])
			if !bytes.Equal(h.Sum(), want) || !bytes.Equal(k.sumOf(room[:n]), want) {
				t.Errorf("%d, %d bytes: what lies behind them was read", k.bits, n)
			}
			long := append(h.State(), bytes.Repeat([]byte{0xa5}, 200)...)
			g, e := sha2.Open(long[:len(h.State())])
			if e != api.OK || !bytes.Equal(g.Sum(), want) {
				t.Errorf("%d, %d bytes: what lies behind a state was read", k.bits, n)
			}
			if !bytes.Equal(long[len(h.State()):], bytes.Repeat([]byte{0xa5}, 200)) {
				t.Errorf("%d, %d bytes: what lies behind a state was written", k.bits, n)
			}
		}
		if !bytes.Equal(room, sampleBytes(6*k.block)) {
			t.Errorf("%d: what lies behind an argument was written", k.bits)
		}
	}
}

func TestAnswersAreNewMemory(t *testing.T) {
	for _, k := range kinds {
		for _, n := range []int{0, 5, k.block, k.block + 5} {
			h := k.begin(t)
			write(t, h, sampleBytes(n))
			sum, state := h.Sum(), h.State()
			clear(sum[:cap(sum)])
			clear(state[:cap(state)])
			if !bytes.Equal(h.Sum(), k.digestOf(sampleBytes(n))) {
				t.Errorf("%d, %d bytes: an answer shares the hash's memory", k.bits, n)
			}
		}
	}
}

// Rule 10: a nil hash.

func TestNil(t *testing.T) {
	var h *sha2.Hash
	for _, b := range [][]byte{nil, {}, {1}, make([]byte, 500)} {
		if e := h.Write(b); e != api.ErrArg {
			t.Errorf("Write of %d bytes: %v", len(b), e)
		}
	}
	if len(h.Sum()) != 0 || len(h.State()) != 0 || h.Len() != 0 {
		t.Errorf("%x, %x, %d", h.Sum(), h.State(), h.Len())
	}
	h.Reset()
}

// P2: answers hang on nothing else.

func TestHashesAreApart(t *testing.T) {
	for _, k := range kinds {
		a, b := k.begin(t), k.begin(t)
		write(t, a, sampleBytes(100))
		if b.Len() != 0 || !bytes.Equal(b.Sum(), k.digestOf(nil)) {
			t.Errorf("%d: two new hashes are not apart", k.bits)
		}
		c := reopened(t, a)
		write(t, c, sampleBytes(300))
		if a.Len() != 100 || !bytes.Equal(a.Sum(), k.digestOf(sampleBytes(100))) {
			t.Errorf("%d: an opened hash is not apart from the one that was put down", k.bits)
		}
		a.Reset()
		if c.Len() != 400 || !bytes.Equal(c.Sum(), k.digestOf(append(sampleBytes(100), sampleBytes(300)...))) {
			t.Errorf("%d: a Reset changed another hash", k.bits)
		}
	}
}

// P1: no panic, whatever a state holds.
func TestOpenOfAnyBytes(t *testing.T) {
	for seed := range 3000 {
		b := sampleBytes(seed + 300)[seed:][:seed%300]
		if len(b) > 0 {
			b[0] = byte(seed % 5)
		}
		if len(b) > 7 && seed%2 == 0 {
			clear(b[1:8])
		}
		h, e := sha2.Open(b)
		if (h == nil) != (e == api.ErrShaForm) || e != api.OK && e != api.ErrShaForm {
			t.Fatalf("%x: %v, %v", b, h, e)
		}
		if h != nil && (!bytes.Equal(h.State(), b) || h.Write(b) != api.OK) {
			t.Fatalf("%x: %x", b, h.State())
		}
	}
}
