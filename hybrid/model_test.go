package hybrid_test

import (
	"bytes"
	lib "crypto/ecdsa"
	"crypto/elliptic"
	"crypto/mldsa"
	"crypto/sha256"
	"math/big"
	"slices"

	"barbican/api"
)

// The library's signers, and the chapter's words on its verifiers: what the package answers is held against these. None of the project's other packages is asked.

// hex is a whole number of its digits.
func hex(s string) *big.Int {
	v, ok := new(big.Int).SetString(s, 16)
	if !ok {
		panic(s)
	}
	return v
}

var (
	bigP = hex("ffffffff00000001000000000000000000000000ffffffffffffffffffffffff")
	bigN = hex("ffffffff00000000ffffffffffffffffbce6faada7179e84f3b9cac2fc632551")
	bigB = hex("5ac635d8aa3a93e7b3ebbd55769886bc651d06b0cc53b0f63bce3c3e27d2604b")
)

// bytesOf are the 32 bytes of a whole number below 2^256.
func bytesOf(v *big.Int) []byte { return v.FillBytes(make([]byte, 32)) }

// A source gives numbers that follow no short pattern, the same ones in each run.
type source uint64

func (s *source) next() uint64 {
	*s += 0x9e3779b97f4a7c15
	v := uint64(*s)
	v = (v ^ v>>30) * 0xbf58476d1ce4e5b9
	v = (v ^ v>>27) * 0x94d049bb133111eb
	return v ^ v>>31
}

// bytes are so many of any.
func (s *source) bytes(n int) []byte {
	b := make([]byte, n)
	for i := range b {
		b[i] = byte(s.next())
	}
	return b
}

// unit is a number from 1 to n - 1.
func (s *source) unit() *big.Int {
	v := new(big.Int).SetBytes(s.bytes(40))
	v.Mod(v, new(big.Int).Sub(bigN, big.NewInt(1)))
	return v.Add(v, big.NewInt(1))
}

// A signer has both secrets, and the key of each.
type signer struct {
	d       *big.Int
	lattice *mldsa.PrivateKey
	first   []byte
	second  []byte
}

func (s *source) signer() signer {
	d := s.unit()
	x, y := elliptic.P256().ScalarBaseMult(bytesOf(d))
	lattice, err := mldsa.NewPrivateKey(mldsa.MLDSA65(), s.bytes(32))
	if err != nil {
		panic(err)
	}
	return signer{d, lattice, pointOf(x, y), lattice.PublicKey().Bytes()}
}

// pointOf are the 65 bytes of two numbers, on the curve or not.
func pointOf(x, y *big.Int) []byte { return slices.Concat([]byte{4}, bytesOf(x), bytesOf(y)) }

func (g signer) key() []byte { return slices.Concat(g.first, g.second) }

// onDigest is an ECDSA signature of a digest, made with the number k.
func (g signer) onDigest(digest []byte, k *big.Int) []byte {
	x, _ := elliptic.P256().ScalarBaseMult(bytesOf(k))
	r := x.Mod(x, bigN)
	s := new(big.Int).Mul(r, g.d)
	s.Add(s, new(big.Int).SetBytes(digest[:32]))
	s.Mul(s, new(big.Int).ModInverse(k, bigN))
	return append(bytesOf(r), bytesOf(s.Mod(s, bigN))...)
}

// onCurve is the first part of a signature.
func (g signer) onCurve(msg []byte, k *big.Int) []byte {
	digest := sha256.Sum256(msg)
	return g.onDigest(digest[:], k)
}

// onLattice is the second part, with random bytes of the library's own.
func (g signer) onLattice(msg []byte, context string) []byte {
	sig, err := g.lattice.Sign(nil, msg, &mldsa.Options{Context: context})
	if err != nil {
		panic(err)
	}
	return sig
}

// sign is a signature.
func (g signer) sign(msg []byte, k *big.Int) []byte {
	return slices.Concat(g.onCurve(msg, k), g.onLattice(msg, ""))
}

// isKey tells whether bytes are a key.
func isKey(key []byte) bool {
	if len(key) != 2017 {
		return false
	}
	_, err := lib.ParseUncompressedPublicKey(elliptic.P256(), key[:65])
	return err == nil
}

// verified is Verify.
func verified(key, msg, sig []byte) api.Errno {
	if !isKey(key) {
		return api.ErrHybridKey
	}
	if len(sig) != 3373 {
		return api.ErrHybridForm
	}
	first, err := lib.ParseUncompressedPublicKey(elliptic.P256(), key[:65])
	if err != nil {
		panic(err)
	}
	digest := sha256.Sum256(msg)
	if !lib.Verify(first, digest[:], new(big.Int).SetBytes(sig[:32]), new(big.Int).SetBytes(sig[32:64])) {
		return api.ErrHybridFirst
	}
	second, err := mldsa.NewPublicKey(mldsa.MLDSA65(), key[65:])
	if err != nil {
		panic(err)
	}
	if mldsa.Verify(second, msg, sig[64:], nil) != nil {
		return api.ErrHybridSecond
	}
	return api.OK
}

func join(a, b []byte) []byte { return slices.Concat(a, b) }

// beside are bytes with one bit changed.
func beside(b []byte, i int) []byte {
	b = slices.Clone(b)
	b[i/8] ^= 1 << (i % 8)
	return b
}

// otherLengths are lengths that are not the right one.
func otherLengths(right int) []int {
	var l []int
	for n := range 2 * right {
		if n != right && (n < 100 || n%61 == 0 || n > right-50 && n < right+50) {
			l = append(l, n)
		}
	}
	return append(l, 2*right, 1<<16, 1<<20)
}

// cut is the first n bytes of some, which are gone through anew where they end.
func cut(b []byte, n int) []byte { return bytes.Repeat(b, n/len(b)+1)[:n:n] }
