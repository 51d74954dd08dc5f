package hybrid_test

import (
	"bytes"
	"crypto/mldsa"
	"crypto/sha256"
	"crypto/sha512"
	"math/big"
	"slices"
	"testing"

	"barbican/api"
	"barbican/hybrid"
)

// keyIs looks at both calls that take a key by itself.
func keyIs(t *testing.T, key []byte) {
	t.Helper()
	first, second, e := hybrid.Key(key)
	if e != api.OK || !bytes.Equal(first, key[:65]) || !bytes.Equal(second, key[65:]) {
		t.Fatalf("%x: %x, %x, %v", key, first, second, e)
	}
	if id, e := hybrid.ID(key); e != api.OK || id != sha256.Sum256(key) {
		t.Fatalf("%x: %x, %v", key, id, e)
	}
}

func keyRefused(t *testing.T, key []byte) {
	t.Helper()
	if first, second, e := hybrid.Key(key); len(first) != 0 || len(second) != 0 || e != api.ErrHybridKey {
		t.Fatalf("%d bytes, %x: %d, %d, %v", len(key), key[:min(len(key), 65)], len(first), len(second), e)
	}
	if id, e := hybrid.ID(key); id != [32]byte{} || e != api.ErrHybridKey {
		t.Fatalf("%d bytes, %x: %x, %v", len(key), key[:min(len(key), 65)], id, e)
	}
}

func verifyIs(t *testing.T, key, msg, sig []byte, want api.Errno) {
	t.Helper()
	if e := hybrid.Verify(key, msg, sig); e != want {
		t.Fatalf("%v, not %v", e, want)
	}
}

// P11.1.

// The second part may be any bytes.
func TestKey(t *testing.T) {
	s := source(1)
	for range 10 {
		g := s.signer()
		keyIs(t, g.key())
		for _, second := range [][]byte{make([]byte, 1952), bytes.Repeat([]byte{0xff}, 1952), s.bytes(1952), cut(g.first, 1952)} {
			keyIs(t, slices.Concat(g.first, second))
		}
	}
}

// Each byte of the second part is the key's, and counts for its digest.
func TestKeyByteByByte(t *testing.T) {
	s := source(2)
	key := s.signer().key()
	found := map[[32]byte]bool{}
	for i := 64; i < 2017; i++ {
		other := slices.Clone(key)
		if i > 64 {
			other[i] ^= 0x81
		}
		keyIs(t, other)
		id, _ := hybrid.ID(other)
		if found[id] {
			t.Fatal(i)
		}
		found[id] = true
	}
}

func TestKeyOfOtherLengths(t *testing.T) {
	s := source(3)
	g := s.signer()
	keyRefused(t, nil)
	for _, n := range otherLengths(2017) {
		for _, b := range [][]byte{g.key(), g.first, {0}, {0xff}, {4}} {
			keyRefused(t, cut(b, n))
		}
	}
	// Each part by itself, and each a byte too short or too long for the other to make up.
	keyRefused(t, g.second)
	keyRefused(t, slices.Concat(g.first[:64], g.second, []byte{0}))
	keyRefused(t, slices.Concat([]byte{0}, g.first, g.second[:1951]))
	// A packed point is no ECDSA key, however many bytes are behind it.
	packed := append([]byte{2 + g.first[64]&1}, g.first[1:33]...)
	keyRefused(t, slices.Concat(packed, g.second))
	keyRefused(t, slices.Concat(packed, g.second, make([]byte, 32)))
	keyRefused(t, slices.Concat(packed, g.second)[:1985])
}

func TestKeyOfNoPoint(t *testing.T) {
	s := source(4)
	g := s.signer()
	for head := range 256 {
		if key := slices.Concat([]byte{byte(head)}, g.first[1:], g.second); head == 4 {
			keyIs(t, key)
		} else {
			keyRefused(t, key)
		}
	}
	for i := range 8 * 65 {
		keyRefused(t, beside(g.key(), i))
	}
	for _, second := range [][]byte{g.second, make([]byte, 1952)} {
		keyRefused(t, slices.Concat(make([]byte, 65), second))
		keyRefused(t, slices.Concat([]byte{4}, make([]byte, 64), second))
		keyRefused(t, slices.Concat(bytes.Repeat([]byte{0xff}, 65), second))
		keyRefused(t, slices.Concat([]byte{4}, g.first[33:], g.first[1:33], second))
		keyRefused(t, slices.Concat(second, g.first))
	}
}

// The same numbers modulo p are no key.
func TestKeyAboveP(t *testing.T) {
	s := source(5)
	second := s.bytes(1952)
	checked := 0
	for i := range int64(20) {
		x := big.NewInt(i)
		square := new(big.Int).Exp(x, big.NewInt(3), bigP)
		square.Sub(square, new(big.Int).Mul(x, big.NewInt(3))).Add(square, bigB)
		y := new(big.Int).ModSqrt(square.Mod(square, bigP), bigP)
		if y == nil {
			continue
		}
		checked++
		keyIs(t, slices.Concat(pointOf(x, y), second))
		keyIs(t, slices.Concat(pointOf(x, new(big.Int).Sub(bigP, y)), second))
		keyRefused(t, slices.Concat(pointOf(new(big.Int).Add(x, bigP), y), second))
	}
	if checked < 5 {
		t.Error(checked)
	}
}

// P11.2: the errors, in their order.

type told struct {
	sig []byte
	e   api.Errno
}

// sigs are signatures of one message by one key, and what is told of them: a good one, some with a wrong part, with both, and of another length.
func sigs(g signer, msg []byte, s *source) []told {
	first, second := g.onCurve(msg, s.unit()), g.onLattice(msg, "")
	var l []told
	for _, b := range noFirst(first) {
		l = append(l, told{join(b, second), api.ErrHybridFirst})
		for _, c := range noSecond(second) {
			l = append(l, told{join(b, c), api.ErrHybridFirst})
		}
	}
	for _, b := range noSecond(second) {
		l = append(l, told{join(first, b), api.ErrHybridSecond})
	}
	good := join(first, second)
	for _, b := range [][]byte{
		nil, first, second, good[:3372], good[1:], append(slices.Clone(good), 0), join([]byte{0}, good), join(second, first)[:3372],
		make([]byte, 3372), make([]byte, 3374), join(good, good), join(first, good),
	} {
		l = append(l, told{b, api.ErrHybridForm})
	}
	return append(l, told{good, api.OK}, told{join(second, first), api.ErrHybridFirst}, told{make([]byte, 3373), api.ErrHybridFirst})
}

// noFirst are 64 bytes that do not pass: numbers out of range, and wrong ones.
func noFirst(first []byte) [][]byte {
	r, s := first[:32], first[32:]
	none, n, most := make([]byte, 32), bytesOf(bigN), bytes.Repeat([]byte{0xff}, 32)
	return [][]byte{
		join(none, s), join(r, none), join(n, s), join(r, n), join(most, s), join(r, most), join(none, none), join(most, most),
		join(s, r), beside(first, 0), beside(first, 511),
	}
}

// noSecond are 3309 bytes that do not pass: a wrong challenge, polynomials too great or wrong ones, no hints.
func noSecond(second []byte) [][]byte {
	far, other, hints := slices.Clone(second), slices.Clone(second), slices.Clone(second)
	copy(far[48:], make([]byte, 3))
	other[48+640*4] ^= 1
	hints[3308] = 56
	return [][]byte{beside(second, 0), beside(second, 8*48-1), far, other, hints, make([]byte, 3309), bytes.Repeat([]byte{0xff}, 3309)}
}

func TestVerify(t *testing.T) {
	s := source(6)
	g, other := s.signer(), s.signer()
	for _, msg := range [][]byte{nil, []byte("a message")} {
		for _, c := range sigs(g, msg, &s) {
			verifyIs(t, g.key(), msg, c.sig, c.e)
			for _, key := range [][]byte{
				nil, g.first, g.second, g.key()[:2016], append(g.key(), 0), make([]byte, 2016), make([]byte, 2017),
				beside(g.key(), 0), beside(g.key(), 9), beside(g.key(), 8*65-1), slices.Concat(g.second, g.first),
			} {
				verifyIs(t, key, msg, c.sig, api.ErrHybridKey)
			}
			// Of another key's signature it is the length alone that may be told ahead of the first part.
			want := api.ErrHybridFirst
			if c.e == api.ErrHybridForm {
				want = api.ErrHybridForm
			}
			verifyIs(t, other.key(), msg, c.sig, want)
		}
	}
}

func TestVerifyOfOtherLengths(t *testing.T) {
	s := source(7)
	g := s.signer()
	msg := []byte("a message")
	good := g.sign(msg, s.unit())
	verifyIs(t, g.key(), msg, good, api.OK)
	for _, n := range otherLengths(3373) {
		for _, b := range [][]byte{good, {0}, {0xff}} {
			verifyIs(t, g.key(), msg, cut(b, n), api.ErrHybridForm)
			verifyIs(t, g.key()[:2016], msg, cut(b, n), api.ErrHybridKey)
		}
	}
	for _, n := range otherLengths(2017) {
		verifyIs(t, cut(g.key(), n), msg, good, api.ErrHybridKey)
	}
}

// Messages of all lengths: no block of either digest's begins or ends a message that is not signed.
func TestVerifyMessages(t *testing.T) {
	s := source(8)
	g := s.signer()
	for _, n := range []int{0, 1, 31, 32, 33, 55, 56, 63, 64, 65, 119, 120, 135, 136, 137, 1000, 1 << 16} {
		msg := s.bytes(n)
		sig := g.sign(msg, s.unit())
		verifyIs(t, g.key(), msg, sig, api.OK)
		verifyIs(t, g.key(), append(slices.Clone(msg), 0), sig, api.ErrHybridFirst)
		if n > 0 {
			verifyIs(t, g.key(), msg[1:], sig, api.ErrHybridFirst)
			verifyIs(t, g.key(), msg[:n-1], sig, api.ErrHybridFirst)
			verifyIs(t, g.key(), beside(msg, 8*n-1), sig, api.ErrHybridFirst)
			verifyIs(t, g.key(), nil, sig, api.ErrHybridFirst)
		}
	}
}

// The first part signs the SHA-256 of the message, neither the message nor another digest.
func TestFirstSignsTheDigest(t *testing.T) {
	s := source(9)
	g := s.signer()
	msg := s.bytes(32)
	second := g.onLattice(msg, "")
	digest, long := sha256.Sum256(msg), sha512.Sum512(msg)
	twice, other := sha256.Sum256(digest[:]), sha512.Sum384(msg)
	verifyIs(t, g.key(), msg, slices.Concat(g.onDigest(digest[:], s.unit()), second), api.OK)
	for _, b := range [][]byte{msg, long[:], twice[:], other[:], make([]byte, 32)} {
		verifyIs(t, g.key(), msg, slices.Concat(g.onDigest(b, s.unit()), second), api.ErrHybridFirst)
	}
}

// The second part signs the message itself, without a context.
func TestSecondSignsTheMessage(t *testing.T) {
	s := source(10)
	g := s.signer()
	for _, msg := range [][]byte{nil, s.bytes(32), s.bytes(255)} {
		first := g.onCurve(msg, s.unit())
		digest := sha256.Sum256(msg)
		verifyIs(t, g.key(), msg, slices.Concat(first, g.onLattice(msg, "")), api.OK)
		for _, context := range []string{"\x00", "a context", string(s.bytes(255))} {
			verifyIs(t, g.key(), msg, slices.Concat(first, g.onLattice(msg, context)), api.ErrHybridSecond)
		}
		for _, b := range [][]byte{digest[:], append(slices.Clone(msg), 0), slices.Concat([]byte{0, 0}, msg)} {
			verifyIs(t, g.key(), msg, slices.Concat(first, g.onLattice(b, "")), api.ErrHybridSecond)
		}
	}
}

// The second part is looked at whether its random bytes are noughts or not.
func TestSecondWithoutRandomBytes(t *testing.T) {
	s := source(11)
	for range 4 {
		g := s.signer()
		msg := s.bytes(50)
		second, err := g.lattice.SignDeterministic(msg, nil)
		if err != nil {
			t.Fatal(err)
		}
		verifyIs(t, g.key(), msg, slices.Concat(g.onCurve(msg, s.unit()), second), api.OK)
	}
}

// P11.3.

// Parts of all signatures of a message by a key may be put together; the parts of another message's, never.
func TestPartsPutTogether(t *testing.T) {
	s := source(12)
	g := s.signer()
	msg, otherMsg := []byte("a message"), []byte("another one")
	var firsts, seconds [][]byte
	for range 4 {
		firsts = append(firsts, g.onCurve(msg, s.unit()))
		seconds = append(seconds, g.onLattice(msg, ""))
	}
	if bytes.Equal(firsts[0], firsts[1]) || bytes.Equal(seconds[0], seconds[1]) {
		t.Fatal("these are not other parts")
	}
	otherFirst, otherSecond := g.onCurve(otherMsg, s.unit()), g.onLattice(otherMsg, "")
	for _, first := range firsts {
		for _, second := range seconds {
			verifyIs(t, g.key(), msg, slices.Concat(first, second), api.OK)
			verifyIs(t, g.key(), otherMsg, slices.Concat(first, second), api.ErrHybridFirst)
			verifyIs(t, g.key(), otherMsg, slices.Concat(otherFirst, second), api.ErrHybridSecond)
			verifyIs(t, g.key(), otherMsg, slices.Concat(first, otherSecond), api.ErrHybridFirst)
		}
		verifyIs(t, g.key(), msg, slices.Concat(first, otherSecond), api.ErrHybridSecond)
	}
	verifyIs(t, g.key(), otherMsg, slices.Concat(otherFirst, otherSecond), api.OK)
}

// With r and s, r and n - s pass, too (7): they are another first part of the same signature.
func TestOtherOfBoth(t *testing.T) {
	s := source(13)
	g := s.signer()
	msg := s.bytes(99)
	sig := g.sign(msg, s.unit())
	other := slices.Clone(sig)
	copy(other[32:64], bytesOf(new(big.Int).Sub(bigN, new(big.Int).SetBytes(sig[32:64]))))
	verifyIs(t, g.key(), msg, sig, api.OK)
	verifyIs(t, g.key(), msg, other, api.OK)
}

// Each part passes for its own part of the key alone: of two signers' parts, shared out in all ways.
func TestEachForItsOwn(t *testing.T) {
	s := source(14)
	signers := [2]signer{s.signer(), s.signer()}
	msg := []byte("a message")
	var firsts, seconds [2][]byte
	for i, g := range signers {
		firsts[i], seconds[i] = g.onCurve(msg, s.unit()), g.onLattice(msg, "")
	}
	for i := range 16 {
		firstKey, secondKey, first, second := i&1, i>>1&1, i>>2&1, i>>3&1
		want := api.OK
		if first != firstKey {
			want = api.ErrHybridFirst
		} else if second != secondKey {
			want = api.ErrHybridSecond
		}
		key := slices.Concat(signers[firstKey].first, signers[secondKey].second)
		verifyIs(t, key, msg, slices.Concat(firsts[first], seconds[second]), want)
	}
}

// One bit beside what was signed: what is told is which part it stands in, and the library agrees.
func TestOneBitBeside(t *testing.T) {
	s := source(15)
	g := s.signer()
	msg := s.bytes(20)
	sig := g.sign(msg, s.unit())
	verifyIs(t, g.key(), msg, sig, api.OK)
	look := func(key, msg, sig []byte, want api.Errno) {
		t.Helper()
		verifyIs(t, key, msg, sig, want)
		if e := verified(key, msg, sig); e != want {
			t.Fatalf("the library: %v, not %v", e, want)
		}
	}
	for i := range 8 * len(msg) {
		look(g.key(), beside(msg, i), sig, api.ErrHybridFirst)
	}
	for i := range 8 * 64 {
		look(g.key(), msg, beside(sig, i), api.ErrHybridFirst)
	}
	for i := 8 * 64; i < 8*3373; i += 37 {
		look(g.key(), msg, beside(sig, i), api.ErrHybridSecond)
	}
	for i := range 8 * 65 {
		look(beside(g.key(), i), msg, sig, api.ErrHybridKey)
	}
	for i := 8 * 65; i < 8*2017; i += 37 {
		look(beside(g.key(), i), msg, sig, api.ErrHybridSecond)
	}
}

// What the library's verifiers say, part by part, at parts that are made to pass and such that are not.
func TestAsTheLibrary(t *testing.T) {
	s := source(16)
	count := map[api.Errno]int{}
	for range 12 {
		g := s.signer()
		for i := range 8 {
			msg := s.bytes(i * 30)
			sig := g.sign(msg, s.unit())
			if i&1 != 0 {
				copy(sig[:64], s.bytes(64))
			}
			if i&2 != 0 {
				copy(sig[64+s.next()%3000:], s.bytes(1))
			}
			key := g.key()
			if i&4 != 0 && s.next()&1 != 0 {
				copy(key[65+s.next()%1900:], s.bytes(4))
			}
			want := verified(key, msg, sig)
			verifyIs(t, key, msg, sig, want)
			count[want]++
		}
	}
	if count[api.OK] == 0 || count[api.ErrHybridFirst] == 0 || count[api.ErrHybridSecond] == 0 {
		t.Error(count)
	}
}

// Rules: what is handed in stays, what lies behind it is neither read nor written, what is answered is new, and no call changes what a later one tells.

// roomy is a list with the same bytes, and others behind its end.
func roomy(b []byte, behind byte) []byte {
	whole := append(slices.Clone(b), bytes.Repeat([]byte{behind}, 64)...)
	return whole[:len(b)]
}

func TestWhatIsHandedIn(t *testing.T) {
	s := source(17)
	g := s.signer()
	msg := s.bytes(40)
	given := [][]byte{g.key(), msg, g.sign(msg, s.unit())}
	for _, behind := range []byte{0, 0xff, 0x5a} {
		var l [][]byte
		for _, b := range given {
			l = append(l, roomy(b, behind))
		}
		verifyIs(t, l[0], l[1], l[2], api.OK)
		verifyIs(t, l[0], l[1][1:], l[2], api.ErrHybridFirst)
		verifyIs(t, l[0], l[1], l[2][:3372], api.ErrHybridForm)
		verifyIs(t, l[0][:2016], l[1], l[2], api.ErrHybridKey)
		keyIs(t, l[0])
		keyRefused(t, l[0][:2016])
		for i, b := range l {
			want := append(slices.Clone(given[i]), bytes.Repeat([]byte{behind}, 64)...)
			if !bytes.Equal(b[:len(want)], want) {
				t.Error(i, "written")
			}
		}
	}
}

// Writing into an answer, up to the end of its memory, changes neither the other one nor the key, and the key none of them.
func TestAnswersAreNew(t *testing.T) {
	s := source(18)
	key := s.signer().key()
	was := slices.Clone(key)
	fill := func(b []byte, x byte) {
		b = b[:cap(b)]
		for i := range b {
			b[i] = x
		}
	}
	first, second, _ := hybrid.Key(key)
	fill(first, 1)
	if !bytes.Equal(key, was) || !bytes.Equal(second, was[65:]) {
		t.Error("the first answer")
	}
	first, second, _ = hybrid.Key(key)
	fill(second, 2)
	if !bytes.Equal(key, was) || !bytes.Equal(first, was[:65]) {
		t.Error("the second answer")
	}
	first, second, _ = hybrid.Key(key)
	fill(key, 3)
	if !bytes.Equal(first, was[:65]) || !bytes.Equal(second, was[65:]) {
		t.Error("the key")
	}
}

func TestSameTwice(t *testing.T) {
	s := source(19)
	g, other := s.signer(), s.signer()
	msg := s.bytes(70)
	sig := g.sign(msg, s.unit())
	for range 3 {
		verifyIs(t, g.key(), msg, sig, api.OK)
		verifyIs(t, other.key(), msg, sig, api.ErrHybridFirst)
		verifyIs(t, slices.Concat(g.first, other.second), msg, sig, api.ErrHybridSecond)
		verifyIs(t, nil, nil, nil, api.ErrHybridKey)
		verifyIs(t, g.key(), nil, nil, api.ErrHybridForm)
		keyIs(t, other.key())
		keyRefused(t, msg)
	}
}

// The chapter's examples.
func TestExamples(t *testing.T) {
	keyRefused(t, make([]byte, 2016))
	keyRefused(t, make([]byte, 2017))
	s := source(20)
	key := s.signer().key()
	for _, msg := range [][]byte{nil, []byte("a message")} {
		verifyIs(t, key, msg, make([]byte, 3372), api.ErrHybridForm)
		verifyIs(t, key, msg, make([]byte, 3373), api.ErrHybridFirst)
	}
	if api.KeySize != 65+mldsa.MLDSA65().PublicKeySize() || api.SigSize != 64+mldsa.MLDSA65().SignatureSize() {
		t.Error(api.KeySize, api.SigSize)
	}
}
