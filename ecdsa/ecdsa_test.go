package ecdsa_test

import (
	"bytes"
	lib "crypto/ecdsa"
	"crypto/elliptic"
	"crypto/sha256"
	"crypto/sha512"
	"math/big"
	"slices"
	"testing"

	"barbican/api"
	"barbican/ecdsa"
)

func keyIs(t *testing.T, key []byte, want api.Point, wantE api.Errno) {
	t.Helper()
	if p, e := ecdsa.Key(key); p != want || e != wantE {
		t.Fatalf("%x: %v, %v, not %v, %v", key, p, e, want, wantE)
	}
}

func splitIs(t *testing.T, sig []byte, wantR, wantS api.Num, wantE api.Errno) {
	t.Helper()
	if r, s, e := ecdsa.Split(sig); r != wantR || s != wantS || e != wantE {
		t.Fatalf("%x: %x, %x, %v, not %x, %x, %v", sig, r, s, e, wantR, wantS, wantE)
	}
}

func verifyIs(t *testing.T, key, digest, sig []byte, want api.Errno) {
	t.Helper()
	if e := ecdsa.Verify(key, digest, sig); e != want {
		t.Fatalf("%x, %x, %x: %v, not %v", key, digest, sig, e, want)
	}
}

// P7.1: Key.

func TestKey(t *testing.T) {
	for _, p := range points() {
		keyIs(t, p.key(), p.given(), api.OK)
	}
}

// Points are handed in as 65 bytes alone, the first 04.
func TestKeyOfOtherForms(t *testing.T) {
	good := base.key()
	good = append(good, good...)
	for n := range len(good) + 1 {
		for head := range 256 {
			b := slices.Clone(good[:n])
			if n > 0 {
				b[0] = byte(head)
			}
			if n == 65 && head == 4 {
				keyIs(t, b, base.given(), api.OK)
			} else {
				keyIs(t, b, api.Point{}, api.ErrEcdsaKey)
			}
		}
	}
	keyIs(t, nil, api.Point{}, api.ErrEcdsaKey)
	keyIs(t, make([]byte, 65), api.Point{}, api.ErrEcdsaKey)
	keyIs(t, make([]byte, 1<<16), api.Point{}, api.ErrEcdsaKey)
	// Infinity has bytes elsewhere: one nought.
	keyIs(t, []byte{0}, api.Point{}, api.ErrEcdsaKey)
}

func TestKeyOfNoPoint(t *testing.T) {
	check := func(x, y *big.Int) {
		p := point{x, y}
		if isOn(x, y) {
			keyIs(t, p.key(), p.given(), api.OK)
		} else {
			keyIs(t, p.key(), api.Point{}, api.ErrEcdsaKey)
		}
	}
	check(whole(0), whole(0))
	check(base.y, base.x)
	for _, p := range points() {
		check(p.x, plus(p.y, whole(1)))
		check(p.x, minus(bigP, p.y))
		// The same modulo p is another number.
		if x := plus(p.x, bigP); x.BitLen() <= 256 {
			check(x, p.y)
		}
	}
	for i := range 512 {
		b := base.key()
		b[1+i/8] ^= 1 << (i % 8)
		keyIs(t, b, api.Point{}, api.ErrEcdsaKey)
	}
}

// P7.1: Split.

func TestSplit(t *testing.T) {
	for _, r := range units() {
		for _, s := range units() {
			splitIs(t, sigOf(r, s), num(r), num(s), api.OK)
		}
	}
}

func TestSplitOutOfRange(t *testing.T) {
	for _, bad := range noUnits() {
		for _, good := range units() {
			splitIs(t, sigOf(bad, good), api.Num{}, api.Num{}, api.ErrEcdsaRange)
			splitIs(t, sigOf(good, bad), api.Num{}, api.Num{}, api.ErrEcdsaRange)
		}
		for _, other := range noUnits() {
			splitIs(t, sigOf(bad, other), api.Num{}, api.Num{}, api.ErrEcdsaRange)
		}
	}
}

// The length is looked at first, whatever the numbers are.
func TestSplitOfOtherLengths(t *testing.T) {
	s := source(4)
	for n := range 200 {
		if n == 64 {
			continue
		}
		for _, b := range [][]byte{make([]byte, n), bytes.Repeat([]byte{255}, n), bytes.Repeat([]byte{1}, n), s.bytes(n)} {
			splitIs(t, b, api.Num{}, api.Num{}, api.ErrEcdsaForm)
		}
	}
	splitIs(t, nil, api.Num{}, api.Num{}, api.ErrEcdsaForm)
	splitIs(t, make([]byte, 1<<16), api.Num{}, api.Num{}, api.ErrEcdsaForm)
}

// P7.1: Scalar.

func TestScalar(t *testing.T) {
	for _, b := range digests() {
		if got := ecdsa.Scalar(b); got != num(scalarOf(b)) {
			t.Errorf("%x: %x", b, got)
		}
	}
}

func TestScalarAboutN(t *testing.T) {
	for i := int64(-3); i < 0; i++ {
		v := plus(bigN, whole(i))
		if got := ecdsa.Scalar(bytesOf(v)); got != num(v) {
			t.Errorf("n %d: %x", i, got)
		}
	}
	for i := range int64(3) {
		if got := ecdsa.Scalar(bytesOf(plus(bigN, whole(i)))); got != (api.Num{uint64(i)}) {
			t.Errorf("n + %d: %x", i, got)
		}
	}
}

// Of each length up to 32 all bytes count, each in its place; of a longer one the first 32 alone.
func TestScalarOfEachLength(t *testing.T) {
	s := source(5)
	for n := range 130 {
		b := s.bytes(n)
		want := num(scalarOf(b))
		if got := ecdsa.Scalar(b); got != want {
			t.Errorf("%x: %x, not %x", b, got, want)
		}
		if got := ecdsa.Scalar(append(slices.Clone(b[:min(n, 32)]), s.bytes(max(n-32, 0))...)); got != want {
			t.Errorf("%x: what is behind 32 bytes counts", b)
		}
	}
	for i := range 32 {
		b := make([]byte, 32)
		b[i] = 1
		if got := ecdsa.Scalar(b); got != num(new(big.Int).Lsh(whole(1), uint(8*(31-i)))) {
			t.Errorf("%x: %x", b, got)
		}
	}
}

// P7.2: the errors ahead of the sum, in their order.

func TestVerifyRefuses(t *testing.T) {
	d, k, digest := whole(12345), whole(6789), []byte("digest")
	good := base.times(d).key()
	r, s := signed(d, k, digest)
	verifyIs(t, good, digest, sigOf(r, s), api.OK)

	packed := append([]byte{2 + good[64]&1}, good[1:33]...)
	other := slices.Clone(good)
	other[64] ^= 1
	long, heads := append(slices.Clone(good), 0), slices.Clone(good)
	heads[0] = 6 + good[64]&1
	sigs := [][]byte{sigOf(r, s), nil, sigOf(r, s)[:63], append(sigOf(r, s), 0), make([]byte, 64), sigOf(bigN, s), sigOf(r, whole(1))}
	for _, key := range [][]byte{nil, good[:64], packed, other, long, heads, make([]byte, 65), make([]byte, 1)} {
		for _, sig := range sigs {
			verifyIs(t, key, digest, sig, api.ErrEcdsaKey)
		}
	}
	for n := range 129 {
		if n != 64 {
			verifyIs(t, good, digest, append(sigOf(r, s), sigOf(r, s)...)[:n], api.ErrEcdsaForm)
			verifyIs(t, good, digest, make([]byte, n), api.ErrEcdsaForm)
		}
	}
	for _, bad := range noUnits() {
		verifyIs(t, good, digest, sigOf(bad, s), api.ErrEcdsaRange)
		verifyIs(t, good, digest, sigOf(r, bad), api.ErrEcdsaRange)
		verifyIs(t, good, digest, sigOf(bad, bad), api.ErrEcdsaRange)
	}
}

// P7.2 and P7.3: who knows d signs, and r with n - s is verified, too.

func TestSigned(t *testing.T) {
	s := source(6)
	for _, d := range units() {
		key := base.times(d).key()
		for i, digest := range digests() {
			k := s.unit()
			if i < len(units()) {
				k = units()[i]
			}
			r, v := signed(d, k, digest)
			if r.Sign() == 0 || v.Sign() == 0 {
				verifyIs(t, key, digest, sigOf(r, v), api.ErrEcdsaRange)
				continue
			}
			verifyIs(t, key, digest, sigOf(r, v), api.OK)
			verifyIs(t, key, digest, sigOf(r, minus(bigN, v)), api.OK)
		}
	}
}

// One bit beside what was signed, in each place.
func TestOneBitBeside(t *testing.T) {
	s := source(7)
	d := s.unit()
	key := base.times(d).key()
	digest := s.bytes(32)
	sig := sigOf(signed(d, s.unit(), digest))
	verifyIs(t, key, digest, sig, api.OK)
	beside := func(b []byte, i int) []byte {
		b = slices.Clone(b)
		b[i/8] ^= 1 << (i % 8)
		return b
	}
	for i := range 8 * len(sig) {
		verifyIs(t, key, digest, beside(sig, i), api.ErrEcdsaWrong)
	}
	for i := range 8 * len(digest) {
		verifyIs(t, key, beside(digest, i), sig, api.ErrEcdsaWrong)
	}
	for i := range 8 * len(key) {
		verifyIs(t, beside(key, i), digest, sig, api.ErrEcdsaKey)
	}
}

// Of a digest the first 32 bytes count, of a key and a signature all.
func TestOtherThanSigned(t *testing.T) {
	s := source(8)
	d, k := s.unit(), s.unit()
	key, other := base.times(d).key(), base.times(s.unit()).key()
	digest := s.bytes(32)
	r, v := signed(d, k, digest)
	verifyIs(t, key, append(slices.Clone(digest), s.bytes(32)...), sigOf(r, v), api.OK)
	verifyIs(t, key, digest[:31], sigOf(r, v), api.ErrEcdsaWrong)
	verifyIs(t, key, digest[1:], sigOf(r, v), api.ErrEcdsaWrong)
	verifyIs(t, key, nil, sigOf(r, v), api.ErrEcdsaWrong)
	verifyIs(t, key, make([]byte, 32), sigOf(r, v), api.ErrEcdsaWrong)
	verifyIs(t, other, digest, sigOf(r, v), api.ErrEcdsaWrong)
	verifyIs(t, base.times(minus(bigN, d)).key(), digest, sigOf(r, v), api.ErrEcdsaWrong)
	verifyIs(t, key, digest, sigOf(v, r), api.ErrEcdsaWrong)
	verifyIs(t, key, digest, sigOf(r, over(whole(1), v)), api.ErrEcdsaWrong)
	for i := int64(1); i < 4; i++ {
		verifyIs(t, key, digest, sigOf(modN(plus(r, whole(i))), v), api.ErrEcdsaWrong)
		verifyIs(t, key, digest, sigOf(r, modN(plus(v, whole(i)))), api.ErrEcdsaWrong)
	}
}

// A short digest is the number of all its bytes: as good as one with noughts ahead, not as one with noughts behind.
func TestShortDigest(t *testing.T) {
	s := source(9)
	d := s.unit()
	key := base.times(d).key()
	for n := range 32 {
		digest := s.bytes(n)
		sig := sigOf(signed(d, s.unit(), digest))
		verifyIs(t, key, digest, sig, api.OK)
		verifyIs(t, key, append(make([]byte, 32-n), digest...), sig, api.OK)
		if n > 0 {
			verifyIs(t, key, append(slices.Clone(digest), make([]byte, 32-n)...), sig, api.ErrEcdsaWrong)
		}
	}
}

// Sums of small multiples: on the way both parts are one point, opposite ones, or nothing; where the sum is infinity, no r is good.
func TestSmallMultiples(t *testing.T) {
	for d := int64(-5); d <= 5; d++ {
		if d == 0 {
			continue
		}
		key := base.times(whole(d)).key()
		for u := int64(-6); u <= 6; u++ {
			for v := int64(-4); v <= 4; v++ {
				if v == 0 {
					continue
				}
				sum := base.times(whole(u + v*d))
				r := modN(sum.x)
				if sum.isInfinity() {
					for _, r := range append(units(), modN(base.x)) {
						s := over(r, modN(whole(v)))
						verifyIs(t, key, bytesOf(times(modN(whole(u)), s)), sigOf(r, s), api.ErrEcdsaWrong)
					}
					continue
				}
				s := over(r, modN(whole(v)))
				e := times(modN(whole(u)), s)
				verifyIs(t, key, bytesOf(e), sigOf(r, s), api.OK)
				// The same digest, n more.
				if more := plus(e, bigN); more.BitLen() <= 256 {
					verifyIs(t, key, bytesOf(more), sigOf(r, s), api.OK)
				}
			}
		}
	}
}

// The key for which R is a certain point: r is then its X, less n, if that is n or more.
func TestCertainR(t *testing.T) {
	src := source(10)
	above := 0
	for _, p := range points() {
		r := modN(p.x)
		if r.Sign() == 0 {
			continue
		}
		if p.x.Cmp(bigN) >= 0 {
			above++
			verifyIs(t, base.key(), nil, sigOf(p.x, whole(1)), api.ErrEcdsaRange)
		}
		for _, s := range []*big.Int{whole(1), src.unit(), minus(bigN, whole(1))} {
			digest := src.bytes(32)
			key := p.times(over(s, r)).plus(base.times(minus(bigN, over(scalarOf(digest), r))))
			verifyIs(t, key.key(), digest, sigOf(r, s), api.OK)
			next := modN(plus(r, whole(1)))
			verifyIs(t, key.key(), digest, sigOf(next, s), api.ErrEcdsaWrong)
		}
	}
	if above < 20 {
		t.Errorf("%d points with X from n on", above)
	}
}

// All of Verify as the chapter words it, at what is not made to be verified.
func TestVerifyAsWorded(t *testing.T) {
	s := source(11)
	keys := [][]byte{base.key(), base.times(minus(bigN, whole(1))).key(), base.times(whole(2)).key(), base.times(s.unit()).key()}
	ds := digests()
	for i, r := range units() {
		for j, v := range units() {
			key, digest := keys[(i+j)%len(keys)], ds[s.next()%uint64(len(ds))]
			verifyIs(t, key, digest, sigOf(r, v), verified(key, digest, sigOf(r, v)))
		}
	}
	// The X of the key is r of what signs the digest r s, with u + v d in any shape.
	for _, key := range keys {
		r := modN(new(big.Int).SetBytes(key[1:33]))
		for _, v := range append(units(), r) {
			for _, digest := range [][]byte{nil, bytesOf(r), bytesOf(v), bytesOf(minus(bigN, r)), bytesOf(bigN)} {
				verifyIs(t, key, digest, sigOf(r, v), verified(key, digest, sigOf(r, v)))
			}
		}
	}
}

// A digest of noughts, of nothing, and of n stand for 0: R hangs on the key alone, and r = s = X of the key is verified.
func TestDigestOfNought(t *testing.T) {
	s := source(12)
	for range 4 {
		p := base.times(s.unit())
		r := modN(p.x)
		for _, digest := range [][]byte{nil, {}, {0}, make([]byte, 32), make([]byte, 33), bytesOf(bigN), append(bytesOf(bigN), 1)} {
			verifyIs(t, p.key(), digest, sigOf(r, r), api.OK)
			verifyIs(t, p.key(), digest, sigOf(r, minus(bigN, r)), api.OK)
		}
		verifyIs(t, p.key(), []byte{1}, sigOf(r, r), api.ErrEcdsaWrong)
	}
}

// The library agrees; of a digest without bytes it refuses all, so that there is none here.
func TestAsTheLibrary(t *testing.T) {
	src := source(13)
	for i := range 60 {
		d := src.unit()
		key := base.times(d).key()
		public, err := lib.ParseUncompressedPublicKey(elliptic.P256(), key)
		if err != nil {
			t.Fatal(err)
		}
		digest := src.bytes(1 + i)
		r, s := signed(d, src.unit(), digest)
		for _, parts := range [][2]*big.Int{{r, s}, {r, minus(bigN, s)}, {s, r}, {minus(bigN, r), s}, {src.unit(), src.unit()}} {
			want := api.ErrEcdsaWrong
			if lib.Verify(public, digest, parts[0], parts[1]) {
				want = api.OK
			}
			verifyIs(t, key, digest, sigOf(parts[0], parts[1]), want)
		}
	}
}

// What RFC 6979, A.2.5, tells of the text "sample", of a digest of each length.
func TestKnown(t *testing.T) {
	d := hex("c9afa9d845ba75166b5c215767b1d6934e50c3db36e89b127b8a622b120f6721")
	key := base.times(d).key()
	x := hex("60fed4ba255a9d31c961eb74c6356d68c049b8923b61fa6ce669622e60f29fb6")
	if !bytes.Equal(key[1:33], bytesOf(x)) {
		t.Fatalf("%x", key)
	}
	text := []byte("sample")
	first, second := sha256.Sum256(text), sha512.Sum512(text)
	short, middle := sha256.Sum224(text), sha512.Sum384(text)
	known := sigOf(hex("efd48b2aacb6a8fd1140dd9cd45e81d69d2c877b56aaf991c34d0ea84eaf3716"), hex("f7cb1c942d657c41d436c7a1b6e29f65f3e900dbb9aff4064dc4ab2f843acda8"))
	verifyIs(t, key, first[:], known, api.OK)
	for _, digest := range [][]byte{second[:], short[:], middle[:]} {
		verifyIs(t, key, digest, known, api.ErrEcdsaWrong)
		verifyIs(t, key, digest, sigOf(signed(d, whole(99), digest)), api.OK)
	}
}

// The chapter's examples.
func TestExamples(t *testing.T) {
	ff := bytes.Repeat([]byte{255}, 32)
	if ecdsa.Scalar(nil) != (api.Num{}) || ecdsa.Scalar([]byte{5}) != (api.Num{5}) {
		t.Error("Scalar")
	}
	if got := ecdsa.Scalar(ff); got != num(minus(new(big.Int).SetBytes(ff), bigN)) {
		t.Errorf("%x", got)
	}
	splitIs(t, make([]byte, 63), api.Num{}, api.Num{}, api.ErrEcdsaForm)
	splitIs(t, make([]byte, 64), api.Num{}, api.Num{}, api.ErrEcdsaRange)
	ones := sigOf(whole(1), whole(1))
	verifyIs(t, base.key()[:64], nil, ones, api.ErrEcdsaKey)
	verifyIs(t, append([]byte{3}, bytesOf(base.x)...), nil, ones, api.ErrEcdsaKey)
	verifyIs(t, base.key(), nil, ones, api.ErrEcdsaWrong)
}

// Rule 4: what is handed in is left as it is, and what lies behind it is not read.
func TestLeavesItsBytes(t *testing.T) {
	s := source(14)
	d, digest := s.unit(), s.bytes(20)
	key, sig := base.times(d).key(), sigOf(signed(d, s.unit(), digest))
	all := slices.Concat(key, []byte{7, 7}, digest, s.bytes(40), sig, []byte{7, 7})
	was := slices.Clone(all)
	inKey, inDigest, inSig := all[:65], all[67:87], all[127:191]
	for range 2 {
		verifyIs(t, inKey, inDigest, inSig, api.OK)
		keyIs(t, inKey, base.times(d).given(), api.OK)
		keyIs(t, inKey[:64], api.Point{}, api.ErrEcdsaKey)
		splitIs(t, inSig[:63], api.Num{}, api.Num{}, api.ErrEcdsaForm)
		verifyIs(t, inKey, inDigest, inSig[:63], api.ErrEcdsaForm)
		if got := ecdsa.Scalar(inDigest); got != num(scalarOf(digest)) {
			t.Errorf("%x", got)
		}
		if !bytes.Equal(all, was) {
			t.Fatalf("%x", all)
		}
	}
}

// P2: the calls ahead of one change nothing of it.
func TestSameTwice(t *testing.T) {
	s := source(15)
	for range 5 {
		d, digest := s.unit(), s.bytes(32)
		key, sig := base.times(d).key(), sigOf(signed(d, s.unit(), digest))
		for range 2 {
			verifyIs(t, key, digest, sig, api.OK)
			verifyIs(t, key, sig, sig, api.ErrEcdsaWrong)
			verifyIs(t, digest, digest, sig, api.ErrEcdsaKey)
			verifyIs(t, key, digest, digest, api.ErrEcdsaForm)
			verifyIs(t, key, digest, make([]byte, 64), api.ErrEcdsaRange)
		}
	}
}
