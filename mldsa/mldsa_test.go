package mldsa_test

import (
	"bytes"
	"crypto"
	lib "crypto/mldsa"
	"slices"
	"testing"

	"barbican/api"
	"barbican/mldsa"
)

func keyIs(t *testing.T, key []byte, wantRho []byte, want [6][256]int64) {
	t.Helper()
	rho, p, e := mldsa.Key(key)
	if e != api.OK || !bytes.Equal(rho[:], wantRho) {
		t.Fatalf("%x, %v, not %x", rho, e, wantRho)
	}
	for r := range p {
		if p[r] != plain(want[r]) {
			t.Fatalf("%d: %v, not %v", r, p[r], want[r])
		}
	}
}

func keyRefused(t *testing.T, key []byte) {
	t.Helper()
	if rho, p, e := mldsa.Key(key); rho != [32]byte{} || p != [6]api.Poly{} || e != api.ErrLatKey {
		t.Fatal(len(key), e)
	}
}

func splitIs(t *testing.T, sig, challenge []byte, z [5][256]int64, h [6]api.Poly) {
	t.Helper()
	c, p, g, e := mldsa.Split(sig)
	if e != api.OK || !bytes.Equal(c[:], challenge) || g != h {
		t.Fatalf("%x, %v, not %x", c, e, challenge)
	}
	for s := range p {
		if p[s] != plain(z[s]) {
			t.Fatalf("%d: %v, not %v", s, p[s], z[s])
		}
	}
}

func splitRefused(t *testing.T, sig []byte, want api.Errno) {
	t.Helper()
	if c, z, h, e := mldsa.Split(sig); c != [48]byte{} || z != [5]api.Poly{} || h != [6]api.Poly{} || e != want {
		t.Fatal(len(sig), e, want)
	}
}

func muIs(t *testing.T, key, msg, context []byte) {
	t.Helper()
	if mu, e := mldsa.Mu(key, msg, context); e != api.OK || !bytes.Equal(mu[:], muOf(key, msg, context)) {
		t.Fatalf("%d, %d: %x, %v", len(msg), len(context), mu, e)
	}
}

func muRefused(t *testing.T, key, msg, context []byte, want api.Errno) {
	t.Helper()
	if mu, e := mldsa.Mu(key, msg, context); mu != [64]byte{} || e != want {
		t.Fatal(len(key), len(context), e, want)
	}
}

func verifyIs(t *testing.T, key, msg, context, sig []byte, want api.Errno) {
	t.Helper()
	if e := mldsa.Verify(key, msg, context, sig); e != want {
		t.Fatalf("%v, not %v", e, want)
	}
}

// otherLengths are lengths that are not the right one.
func otherLengths(right int) []int {
	var l []int
	for n := range 2 * right {
		if n != right && (n < 100 || n%61 == 0 || n > right-50 && n < right+50) {
			l = append(l, n)
		}
	}
	return append(l, 2*right, 1<<16)
}

// fills are bytes of some patterns.
func fills(n int) [][]byte {
	s := source(n)
	return [][]byte{make([]byte, n), bytes.Repeat([]byte{0xff}, n), bytes.Repeat([]byte{1}, n), s.bytes(n)}
}

// P10.1: Key.

func TestKey(t *testing.T) {
	if mldsa.KeyBytes != 1952 || mldsa.SigBytes != 3309 {
		t.Error(mldsa.KeyBytes, mldsa.SigBytes)
	}
	for _, key := range fills(1952) {
		var want [6][256]int64
		for r := range want {
			want[r] = numbersOf(key[32+320*r:32+320*(r+1)], 10)
		}
		keyIs(t, key, key[:32], want)
	}
	s := source(1)
	for range 20 {
		rho := s.bytes(32)
		var want [6][256]int64
		for r := range want {
			want[r] = s.between(0, 1023)
		}
		keyIs(t, keyOf(rho, want), rho, want)
	}
}

// Each byte stands in its own place of the parts.
func TestKeyByteByByte(t *testing.T) {
	for i := range 1952 {
		key := make([]byte, 1952)
		key[i] = 0x81
		var want [6][256]int64
		if i >= 32 {
			r := (i - 32) / 320
			want[r] = numbersOf(key[32+320*r:32+320*(r+1)], 10)
		}
		keyIs(t, key, key[:32], want)
	}
}

func TestKeyOfOtherLengths(t *testing.T) {
	keyRefused(t, nil)
	for _, n := range otherLengths(1952) {
		for _, key := range fills(n) {
			keyRefused(t, key)
		}
	}
}

// P10.1: Split.

const farthest = 1<<19 - 197

func TestSplit(t *testing.T) {
	s := source(2)
	for n := range 56 {
		var z [5][256]int64
		for i := range z {
			z[i] = s.between(-farthest, farthest)
		}
		challenge, h := s.bytes(48), s.hints(n)
		splitIs(t, sigOf(challenge, z, h), challenge, z, h)
	}
	for _, x := range []int64{0, 1, -1, farthest, -farthest} {
		z := [5][256]int64{all(x), all(-x), all(x), all(0), all(-x)}
		splitIs(t, sigOf(make([]byte, 48), z, [6]api.Poly{}), make([]byte, 48), z, [6]api.Poly{})
	}
}

// Each coefficient is one of the signature's, and may go as far as all others, and no farther.
func TestSplitNorm(t *testing.T) {
	for s := range 5 {
		for i := range 256 {
			for _, x := range []int64{farthest, -farthest} {
				var z [5][256]int64
				z[s][i] = x
				splitIs(t, sigOf(make([]byte, 48), z, [6]api.Poly{}), make([]byte, 48), z, [6]api.Poly{})
			}
			for _, x := range []int64{farthest + 1, -farthest - 1, 1 << 19, -(1<<19 - 1)} {
				var z [5][256]int64
				z[s][i] = x
				splitRefused(t, sigOf(make([]byte, 48), z, [6]api.Poly{}), api.ErrLatNorm)
			}
		}
	}
	for _, x := range []int64{farthest + 2, -farthest - 2, 1<<19 - 1, -(1<<19 - 2)} {
		splitRefused(t, sigOf(make([]byte, 48), [5][256]int64{2: all(x)}, [6]api.Poly{}), api.ErrLatNorm)
	}
}

func TestSplitOfOtherLengths(t *testing.T) {
	splitRefused(t, nil, api.ErrLatForm)
	for _, n := range otherLengths(3309) {
		for _, sig := range fills(n) {
			splitRefused(t, sig, api.ErrLatForm)
		}
	}
	good := sigOf(make([]byte, 48), [5][256]int64{}, [6]api.Poly{})
	splitRefused(t, good[:3308], api.ErrLatForm)
	splitRefused(t, good[1:], api.ErrLatForm)
	splitRefused(t, append(good, 0), api.ErrLatForm)
}

// noHints are 61 bytes that are no hints'.
func noHints() [][]byte {
	changed := func(changes ...[2]byte) []byte {
		b := hintBytes([6]api.Poly{0: {3: 1, 7: 1}, 4: {7: 1}})
		for _, c := range changes {
			b[c[0]] = c[1]
		}
		return b
	}
	return [][]byte{
		bytes.Repeat([]byte{0xff}, 61),
		append([]byte{1}, make([]byte, 60)...),    // a place that counts to no polynomial
		changed([2]byte{0, 7}),                    // twice the same place
		changed([2]byte{0, 8}),                    // places that fall
		changed([2]byte{3, 1}),                    // what is behind the last is no nought
		changed([2]byte{54, 1}),                   // nor is the last byte ahead of the ends
		changed([2]byte{55, 3}),                   // an end beyond the next ones
		changed([2]byte{59, 1}),                   // an end that falls
		changed([2]byte{60, 56}),                  // more than there may be
		changed([2]byte{60, 55}),                  // noughts as places
		changed([2]byte{58, 3}, [2]byte{59, 2}),   // an end that falls, between right ones
		changed([2]byte{60, 2}),                   // a last one that falls
		changed([2]byte{55, 255}, [2]byte{60, 3}), // far beyond
	}
}

// Hints are looked at ahead of how far Z goes.
func TestSplitHints(t *testing.T) {
	for _, b := range noHints() {
		for _, x := range []int64{0, farthest, farthest + 1, 1 << 19} {
			sig := sigOf(make([]byte, 48), [5][256]int64{all(x)}, [6]api.Poly{})
			copy(sig[3309-61:], b)
			splitRefused(t, sig, api.ErrLatHint)
		}
	}
}

// P10.2.

func TestMu(t *testing.T) {
	s := source(3)
	for _, key := range fills(1952) {
		for n := range 256 {
			muIs(t, key, s.bytes(n), s.bytes(n))
			muIs(t, key, nil, s.bytes(n))
			muIs(t, key, s.bytes(n), nil)
		}
		for _, n := range []int{271, 272, 273, 1000, 1 << 16} {
			muIs(t, key, s.bytes(n), s.bytes(7))
		}
	}
}

// Each byte that is handed in counts, and where it stands.
func TestMuHangsOnAll(t *testing.T) {
	key, msg, context := fills(1952)[3], []byte("a message"), []byte("context")
	found := map[[64]byte]bool{}
	look := func(key, msg, context []byte) {
		t.Helper()
		mu, e := mldsa.Mu(key, msg, context)
		if e != api.OK || found[mu] {
			t.Fatalf("%x, %v", mu, e)
		}
		found[mu] = true
	}
	look(key, msg, context)
	for i := range key {
		other := slices.Clone(key)
		other[i] ^= 0x10
		look(other, msg, context)
	}
	// The same bytes, parted otherwise.
	whole := slices.Concat(context, msg)
	for i := range len(whole) + 1 {
		if i != len(context) {
			look(key, whole[i:], whole[:i])
		}
	}
	look(key, append([]byte{0}, msg...), context)
	look(key, msg, append([]byte{0}, context...))
	look(key, append(slices.Clone(msg), 0), context)
}

func TestMuRefused(t *testing.T) {
	good := make([]byte, 1952)
	contexts := [][]byte{nil, {}, make([]byte, 255), make([]byte, 256), make([]byte, 1<<16)}
	for _, n := range otherLengths(1952) {
		for _, context := range contexts {
			muRefused(t, make([]byte, n), []byte("a message"), context, api.ErrLatKey)
		}
	}
	muRefused(t, nil, nil, nil, api.ErrLatKey)
	for n := 256; n < 600; n++ {
		muRefused(t, good, []byte("a message"), make([]byte, n), api.ErrLatContext)
	}
	for _, n := range []int{1024, 65535, 65536, 65537, 1 << 20} {
		muRefused(t, good, nil, make([]byte, n), api.ErrLatContext)
	}
}

// P10.3.

// A deal is what Commit is handed.
type deal struct {
	rho [32]byte
	t   [6]api.Poly
	c   api.Poly
	z   [5]api.Poly
	h   [6]api.Poly
}

func (d deal) commit() ([6]api.Poly, api.Errno) { return mldsa.Commit(d.rho, d.t, d.c, d.z, d.h) }

func (d deal) isAsWorded(t *testing.T) {
	t.Helper()
	var key [6][256]int64
	var z [5][256]int64
	for r := range d.t {
		key[r] = coefficients(d.t[r])
	}
	for s := range d.z {
		z[s] = coefficients(d.z[s])
	}
	want := commitment(d.rho[:], key, coefficients(d.c), z, d.h)
	w, e := d.commit()
	if e != api.OK {
		t.Fatal(e)
	}
	for r := range w {
		if w[r] != plain(want[r]) {
			t.Fatalf("%d: %v, not %v", r, w[r], want[r])
		}
	}
}

func (d deal) isRefused(t *testing.T, want api.Errno) {
	t.Helper()
	if w, e := d.commit(); w != [6]api.Poly{} || e != want {
		t.Fatalf("%v, not %v", e, want)
	}
}

// deal is any good one.
func (s *source) deal() deal {
	d := deal{rho: [32]byte(s.bytes(32)), c: plain(s.between(0, modulus-1)), h: s.hints(int(s.next() % 1537))}
	for r := range d.t {
		d.t[r] = plain(s.between(0, 1023))
	}
	for i := range d.z {
		d.z[i] = plain(s.between(0, modulus-1))
	}
	return d
}

func TestCommit(t *testing.T) {
	s := source(4)
	for range 12 {
		d := s.deal()
		d.isAsWorded(t)
		// With every hint, and with none: both ways to correct are taken.
		d.h = [6]api.Poly{}
		d.isAsWorded(t)
		for r := range d.h {
			d.h[r] = plain(all(1))
		}
		d.isAsWorded(t)
		d.c = plain(ball(s.bytes(48)))
		d.isAsWorded(t)
	}
	deal{}.isAsWorded(t)
	d := deal{c: plain(all(modulus - 1))}
	for r := range d.t {
		d.t[r], d.h[r] = plain(all(1023)), plain(all(1))
	}
	for i := range d.z {
		d.z[i] = plain(all(modulus - 1))
	}
	d.isAsWorded(t)
}

// Without z, and with c a number by itself, the commitment is the key's own, made greater.
func TestCommitOfTheKeyAlone(t *testing.T) {
	s := source(5)
	d := deal{rho: [32]byte(s.bytes(32)), c: api.Poly{modulus - 1}}
	for r := range d.t {
		d.t[r] = plain(s.between(0, 1023))
	}
	w, e := d.commit()
	for r := range w {
		for i, c := range w[r] {
			if want := highOf(8192 * int64(d.t[r][i])); int64(c) != want || e != api.OK {
				t.Fatal(r, i, c, want, e)
			}
		}
	}
}

// Without a key's polynomials, and with z a number by itself in one place, the commitment is a column of the matrix.
func TestCommitOfTheMatrixAlone(t *testing.T) {
	s := source(6)
	rho := s.bytes(32)
	a := matrix(rho)
	for column := range 5 {
		d := deal{rho: [32]byte(rho)}
		d.z[column][0] = 1
		w, e := d.commit()
		for r := range w {
			if want := each(ofValues(a[r][column]), highOf); w[r] != plain(want) || e != api.OK {
				t.Fatal(r, column, e)
			}
		}
	}
}

func TestCommitOutOfRange(t *testing.T) {
	s := source(7)
	good := s.deal()
	noNumbers := []int32{-1, -1 << 31, modulus, modulus + 1, 1<<31 - 1, 1 << 23, 1 - modulus}
	places := []int{0, 1, 100, 255}
	for _, i := range places {
		for r := range 6 {
			for _, x := range append([]int32{1024, 1025, 8192, modulus - 1}, noNumbers...) {
				d := good
				d.t[r][i] = x
				d.isRefused(t, api.ErrRingRange)
			}
		}
		for _, x := range noNumbers {
			d := good
			d.c[i] = x
			d.isRefused(t, api.ErrRingRange)
			for s := range 5 {
				d := good
				d.z[s][i] = x
				d.isRefused(t, api.ErrRingRange)
			}
		}
	}
}

func TestCommitOfNoHints(t *testing.T) {
	s := source(8)
	good := s.deal()
	for r := range 6 {
		for i := range 256 {
			for _, x := range []int32{2, -1, modulus, 1<<31 - 1, -1 << 31, 256, modulus + 1} {
				d := good
				d.h[r][i] = x
				if i%50 == 0 || x == 2 {
					d.isRefused(t, api.ErrPackHint)
				}
			}
		}
	}
	// What is out of range is told first.
	good.h[0][0] = 2
	for r := range 6 {
		d := good
		d.t[r][255] = 1024
		d.isRefused(t, api.ErrRingRange)
	}
	for s := range 5 {
		d := good
		d.z[s][255] = modulus
		d.isRefused(t, api.ErrRingRange)
	}
	d := good
	d.c[255] = -1
	d.isRefused(t, api.ErrRingRange)
}

// P10.4: the errors, in their order.
func TestVerifyRefuses(t *testing.T) {
	signing := newSigner(make([]byte, 32))
	msg, context := []byte("a message"), []byte("context")
	good := signing.sign(msg, context, make([]byte, 32))
	verifyIs(t, signing.key, msg, context, good, api.OK)
	far, hints, both := slices.Clone(good), slices.Clone(good), slices.Clone(good)
	copy(far[48:], make([]byte, 3))
	hints[3308] = 56
	copy(both[48:], make([]byte, 3))
	both[3308] = 56
	sigs := []struct {
		sig  []byte
		want api.Errno
	}{
		{good, api.OK},
		{nil, api.ErrLatForm},
		{good[:3308], api.ErrLatForm},
		{both[:3308], api.ErrLatForm},
		{append(slices.Clone(good), 0), api.ErrLatForm},
		{append(slices.Clone(both), 0), api.ErrLatForm},
		{hints, api.ErrLatHint},
		{both, api.ErrLatHint},
		{far, api.ErrLatNorm},
		{make([]byte, 3309), api.ErrLatNorm},
		{bytes.Repeat([]byte{0xff}, 3309), api.ErrLatHint},
	}
	for _, c := range sigs {
		verifyIs(t, signing.key, msg, context, c.sig, c.want)
		for _, n := range []int{256, 257, 511, 512, 1 << 16} {
			verifyIs(t, signing.key, msg, make([]byte, n), c.sig, api.ErrLatContext)
			verifyIs(t, signing.key[:1951], msg, make([]byte, n), c.sig, api.ErrLatKey)
		}
		for _, key := range [][]byte{nil, signing.key[:1951], signing.key[1:], append(slices.Clone(signing.key), 0), make([]byte, 3904)} {
			verifyIs(t, key, msg, context, c.sig, api.ErrLatKey)
		}
	}
	for _, b := range noHints() {
		verifyIs(t, signing.key, msg, context, append(slices.Clone(good[:3309-61]), b...), api.ErrLatHint)
	}
}

// verified is what the chapter says of a signature whose parts are right.
func verified(key, msg, context, sig []byte) api.Errno {
	var t [6][256]int64
	for r := range t {
		t[r] = numbersOf(key[32+320*r:], 10)
	}
	var z [5][256]int64
	for s := range z {
		z[s] = each(numbersOf(sig[48+640*s:], 20), func(x int64) int64 { return 1<<19 - x })
	}
	w := commitment(key[:32], t, ball(sig[:48]), z, hintsOf(sig[3309-61:]))
	if !bytes.Equal(challengeOf(muOf(key, msg, context), w), sig[:48]) {
		return api.ErrLatWrong
	}
	return api.OK
}

// withoutKey is a key whose polynomials are 0, and a signature of it: the commitment does not hang on the challenge then, so that there is one for any z and any hints.
func withoutKey(rho, msg, context []byte, z [5][256]int64, h [6]api.Poly) ([]byte, []byte) {
	key := append(slices.Clone(rho), make([]byte, 1920)...)
	w := commitment(rho, [6][256]int64{}, [256]int64{}, z, h)
	return key, sigOf(challengeOf(muOf(key, msg, context), w), z, h)
}

// Parts at their bounds are verified, and none beyond, though the challenge is right.
func TestVerifyAtTheBounds(t *testing.T) {
	s := source(9)
	for _, n := range []int{0, 1, 54, 55} {
		for i, x := range []int64{0, 1, -1, farthest, -farthest} {
			z := [5][256]int64{s.between(-farthest, farthest), all(x), 4: s.between(-1, 1)}
			msg, context := []byte("a message"), bytes.Repeat([]byte{byte(i)}, 255-i)
			key, sig := withoutKey(s.bytes(32), msg, context, z, s.hints(n))
			verifyIs(t, key, msg, context, sig, api.OK)
			verifyIs(t, key, msg, context[1:], sig, api.ErrLatWrong)
			verifyIs(t, key, msg, nil, sig, api.ErrLatWrong)
		}
	}
	for r := range 5 {
		for _, x := range []int64{farthest + 1, -farthest - 1, 1 << 19, 1 - 1<<19} {
			var z [5][256]int64
			z[r][255] = x
			key, sig := withoutKey(s.bytes(32), nil, nil, z, s.hints(3))
			verifyIs(t, key, nil, nil, sig, api.ErrLatNorm)
		}
	}
}

// Which hints there are counts, and what stands in z.
func TestVerifyOtherParts(t *testing.T) {
	s := source(10)
	var z [5][256]int64
	for i := range z {
		z[i] = s.between(-farthest, farthest)
	}
	h := s.hints(40)
	key, sig := withoutKey(s.bytes(32), nil, nil, z, h)
	verifyIs(t, key, nil, nil, sig, api.OK)
	for r := range h {
		for _, i := range []int{0, 128, 255} {
			other := h
			other[r][i] ^= 1
			verifyIs(t, key, nil, nil, sigOf(sig[:48], z, other), api.ErrLatWrong)
		}
	}
	for i := range z {
		for _, place := range []int{0, 128, 255} {
			other := z
			// By itself 1 might change no high part.
			other[i][place] = -other[i][place] / 2
			verifyIs(t, key, nil, nil, sigOf(sig[:48], other, h), verified(key, nil, nil, sigOf(sig[:48], other, h)))
		}
	}
}

// Rounds that a signer throws away, too: a verifier tells what the chapter says of them.
func TestVerifyAsWorded(t *testing.T) {
	s := source(11)
	signing := newSigner(s.bytes(32))
	told := map[api.Errno]int{}
	for i := range 40 {
		msg, context := s.bytes(i), s.bytes(i%3)
		d := signing.draftOf(muOf(signing.key, msg, context), s.bytes(64), i)
		if d.hints > 55 || d.zNorm >= 1<<19 {
			continue
		}
		want := verified(signing.key, msg, context, d.sig())
		if d.zNorm >= 1<<19-196 {
			want = api.ErrLatNorm
		}
		if d.good() && want != api.OK {
			t.Error("a good one is not verified")
		}
		verifyIs(t, signing.key, msg, context, d.sig(), want)
		told[want]++
	}
	if told[api.OK] == 0 || told[api.ErrLatNorm] == 0 {
		t.Error(told)
	}
}

// P10.5.

// The signer of these tests is the library's, where its random bytes are noughts.
func TestSigner(t *testing.T) {
	s := source(12)
	for i := range 4 {
		seed, msg, context := s.bytes(32), s.bytes(50*i), s.bytes(i)
		theirs, err := lib.NewPrivateKey(lib.MLDSA65(), seed)
		if err != nil {
			t.Fatal(err)
		}
		signing := newSigner(seed)
		if !bytes.Equal(signing.key, theirs.PublicKey().Bytes()) {
			t.Fatal("other keys")
		}
		sig, err := theirs.SignDeterministic(msg, &lib.Options{Context: string(context)})
		if err != nil || !bytes.Equal(sig, signing.sign(msg, context, make([]byte, 32))) {
			t.Fatal("other signatures", err)
		}
	}
}

func TestSigned(t *testing.T) {
	s := source(13)
	for i := range 4 {
		signing, other := newSigner(s.bytes(32)), newSigner(s.bytes(32))
		for j := range 4 {
			msg, context := s.bytes(1+60*j), s.bytes(85*j)
			sig := signing.sign(msg, context, s.bytes(32))
			again := signing.sign(msg, context, bytes.Repeat([]byte{byte(i)}, 32))
			if bytes.Equal(sig, again) {
				t.Error("the random bytes count for nothing")
			}
			for _, good := range [][]byte{sig, again} {
				verifyIs(t, signing.key, msg, context, good, api.OK)
				verifyIs(t, other.key, msg, context, good, api.ErrLatWrong)
				verifyIs(t, signing.key, msg[1:], context, good, api.ErrLatWrong)
				verifyIs(t, signing.key, append(msg, 0), context, good, api.ErrLatWrong)
				if j < 3 {
					verifyIs(t, signing.key, msg, append(context, 0), good, api.ErrLatWrong)
				}
				if j > 0 {
					verifyIs(t, signing.key, msg, context[1:], good, api.ErrLatWrong)
					verifyIs(t, signing.key, msg, nil, good, api.ErrLatWrong)
				}
			}
		}
	}
}

// The library's signers, with random bytes of their own.
func TestSignedByTheLibrary(t *testing.T) {
	s := source(14)
	for i := range 30 {
		key, err := lib.NewPrivateKey(lib.MLDSA65(), s.bytes(32))
		if err != nil {
			t.Fatal(err)
		}
		public := key.PublicKey().Bytes()
		msg, context := s.bytes(i*i), s.bytes(i*255/29)
		sig, err := key.Sign(nil, msg, &lib.Options{Context: string(context)})
		if err != nil {
			t.Fatal(err)
		}
		verifyIs(t, public, msg, context, sig, api.OK)
		// What stands for the message is all that is signed of it.
		mu, e := mldsa.Mu(public, msg, context)
		if e != api.OK {
			t.Fatal(e)
		}
		sig, err = key.Sign(nil, mu[:], crypto.MLDSAMu)
		if err != nil {
			t.Fatal(err)
		}
		verifyIs(t, public, msg, context, sig, api.OK)
	}
}

// What is signed without a context is not signed with one, however the bytes are shared out.
func TestContextIsNoMessage(t *testing.T) {
	s := source(15)
	signing := newSigner(s.bytes(32))
	whole := []byte("context and message")
	for _, at := range []int{0, 1, 7, len(whole)} {
		sig := signing.sign(whole[at:], whole[:at], s.bytes(32))
		for other := range len(whole) + 1 {
			want := api.ErrLatWrong
			if other == at {
				want = api.OK
			}
			verifyIs(t, signing.key, whole[other:], whole[:other], sig, want)
		}
	}
}

// One bit beside what was signed, in each part: it is not verified, by the library neither.
func TestOneBitBeside(t *testing.T) {
	s := source(16)
	signing := newSigner(s.bytes(32))
	msg, context := s.bytes(40), s.bytes(20)
	sig := signing.sign(msg, context, s.bytes(32))
	verifyIs(t, signing.key, msg, context, sig, api.OK)
	beside := func(b []byte, i int) []byte {
		b = slices.Clone(b)
		b[i/8] ^= 1 << (i % 8)
		return b
	}
	for i := range 8 * len(msg) {
		verifyIs(t, signing.key, beside(msg, i), context, sig, api.ErrLatWrong)
	}
	for i := range 8 * len(context) {
		verifyIs(t, signing.key, msg, beside(context, i), sig, api.ErrLatWrong)
	}
	for i := 0; i < 8*len(signing.key); i += 37 {
		verifyIs(t, beside(signing.key, i), msg, context, sig, api.ErrLatWrong)
	}
	public, err := lib.NewPublicKey(lib.MLDSA65(), signing.key)
	if err != nil {
		t.Fatal(err)
	}
	for i := 0; i < 8*len(sig); i++ {
		if i >= 8*48 && i < 8*(3309-61) && i%37 != 0 {
			continue
		}
		other := beside(sig, i)
		e := mldsa.Verify(signing.key, msg, context, other)
		if e == api.OK || lib.Verify(public, msg, other, &lib.Options{Context: string(context)}) == nil {
			t.Fatal(i, e)
		}
		_, _, _, split := mldsa.Split(other)
		if split == api.OK && e != api.ErrLatWrong || split != api.OK && e != split {
			t.Fatal(i, e, split)
		}
	}
}

// Rules: what is handed in stays, what lies behind it is neither read nor written, and no call changes what a later one tells.

// roomy is a list with the same bytes, and others behind its end.
func roomy(b []byte, behind byte) []byte {
	whole := append(slices.Clone(b), bytes.Repeat([]byte{behind}, 64)...)
	return whole[:len(b)]
}

func TestWhatIsHandedIn(t *testing.T) {
	s := source(17)
	signing := newSigner(s.bytes(32))
	msg, context := s.bytes(40), s.bytes(20)
	sig := signing.sign(msg, context, s.bytes(32))
	given := [][]byte{signing.key, msg, context, sig}
	rho, p, _ := mldsa.Key(signing.key)
	c, z, h, _ := mldsa.Split(sig)
	for _, behind := range []byte{0, 0xff, 0x5a} {
		var l [][]byte
		for _, b := range given {
			l = append(l, roomy(b, behind))
		}
		verifyIs(t, l[0], l[1], l[2], l[3], api.OK)
		verifyIs(t, l[0], l[1], nil, l[3], api.ErrLatWrong)
		muIs(t, l[0], l[1], l[2])
		if again, q, e := mldsa.Key(l[0]); again != rho || q != p || e != api.OK {
			t.Error(e)
		}
		if d, y, g, e := mldsa.Split(l[3]); d != c || y != z || g != h || e != api.OK {
			t.Error(e)
		}
		for i, b := range l {
			want := append(slices.Clone(given[i]), bytes.Repeat([]byte{behind}, 64)...)
			if !bytes.Equal(b[:len(want)], want) {
				t.Error(i, "written")
			}
		}
	}
}

func TestSameTwice(t *testing.T) {
	s := source(18)
	d := s.deal()
	first, _ := d.commit()
	for range 3 {
		other := s.deal()
		other.commit()
		other.c[0] = -1
		other.commit()
		if again, e := d.commit(); again != first || e != api.OK {
			t.Fatal(e)
		}
	}
}

// The chapter's examples.

func TestExamples(t *testing.T) {
	keyRefused(t, make([]byte, 1951))
	splitRefused(t, make([]byte, 3308), api.ErrLatForm)
	keyIs(t, make([]byte, 1952), make([]byte, 32), [6][256]int64{})
	muRefused(t, make([]byte, 1952), nil, make([]byte, 256), api.ErrLatContext)
	splitRefused(t, make([]byte, 3309), api.ErrLatNorm)
	verifyIs(t, make([]byte, 1952), nil, nil, bytes.Repeat([]byte{0xff}, 3309), api.ErrLatHint)
}
