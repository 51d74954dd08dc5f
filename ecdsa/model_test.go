package ecdsa_test

import (
	"crypto/elliptic"
	"math"
	"math/big"

	"barbican/api"
)

// The chapter's words on whole numbers, and on the library's points: what the package answers is held against these.

var (
	most = api.Num{math.MaxUint64, math.MaxUint64, math.MaxUint64, math.MaxUint64}

	bigP = hex("ffffffff00000001000000000000000000000000ffffffffffffffffffffffff")
	bigN = hex("ffffffff00000000ffffffffffffffffbce6faada7179e84f3b9cac2fc632551")
	bigB = hex("5ac635d8aa3a93e7b3ebbd55769886bc651d06b0cc53b0f63bce3c3e27d2604b")

	base = point{
		hex("6b17d1f2e12c4247f8bce6e563a440f277037d812deb33a0f4a13945d898c296"),
		hex("4fe342e2fe1a7f9b8ee7eb4a7c0f9e162bce33576b315ececbb6406837bf51f5"),
	}
)

// hex is a whole number of its digits.
func hex(s string) *big.Int {
	v, ok := new(big.Int).SetString(s, 16)
	if !ok {
		panic(s)
	}
	return v
}

func whole(i int64) *big.Int { return big.NewInt(i) }

// num is a whole number below 2^256.
func num(v *big.Int) api.Num {
	if v.Sign() < 0 || v.BitLen() > 256 {
		panic(v)
	}
	var x api.Num
	mask := new(big.Int).SetUint64(math.MaxUint64)
	for i := range x {
		x[i] = new(big.Int).And(v, mask).Uint64()
		v = new(big.Int).Rsh(v, 64)
	}
	return x
}

// bytesOf are the 32 bytes of a whole number below 2^256.
func bytesOf(v *big.Int) []byte { return v.FillBytes(make([]byte, 32)) }

func plus(a, b *big.Int) *big.Int { return new(big.Int).Add(a, b) }

func minus(a, b *big.Int) *big.Int { return new(big.Int).Sub(a, b) }

func modN(a *big.Int) *big.Int { return new(big.Int).Mod(a, bigN) }

// times is a product modulo n.
func times(a, b *big.Int) *big.Int { return modN(new(big.Int).Mul(a, b)) }

// over is a quotient modulo n.
func over(a, b *big.Int) *big.Int { return times(a, new(big.Int).ModInverse(b, bigN)) }

// A point is the library's: infinity is 0, 0.
type point struct{ x, y *big.Int }

func (p point) isInfinity() bool { return p.x.Sign() == 0 && p.y.Sign() == 0 }

// given is a point as api has it.
func (p point) given() api.Point { return api.Point{X: num(p.x), Y: num(p.y)} }

// key is a point as a key, on the curve or not.
func (p point) key() []byte { return append(append([]byte{4}, bytesOf(p.x)...), bytesOf(p.y)...) }

func (p point) plus(q point) point {
	x, y := elliptic.P256().Add(p.x, p.y, q.x, q.y)
	return point{x, y}
}

// times is the sum of p k times, for any whole number k.
func (p point) times(k *big.Int) point {
	x, y := elliptic.P256().ScalarMult(p.x, p.y, bytesOf(modN(k)))
	return point{x, y}
}

// right is X^3 - 3 X + b modulo p.
func right(x *big.Int) *big.Int {
	v := new(big.Int).Exp(x, whole(3), bigP)
	v.Sub(v, new(big.Int).Mul(x, whole(3))).Add(v, bigB)
	return v.Mod(v, bigP)
}

// isOn tells whether two numbers are a point's.
func isOn(x, y *big.Int) bool {
	return x.Cmp(bigP) < 0 && y.Cmp(bigP) < 0 && new(big.Int).Exp(y, whole(2), bigP).Cmp(right(x)) == 0
}

// at is a point with an X below p, its Y even or odd, if there is one.
func at(x *big.Int, odd uint) (point, bool) {
	y := new(big.Int).ModSqrt(right(x), bigP)
	if y == nil {
		return point{}, false
	}
	if y.Bit(0) != odd {
		y.Sub(bigP, y)
	}
	return point{x, y}, true
}

// keyOf is Key.
func keyOf(key []byte) (point, api.Errno) {
	if len(key) != 65 || key[0] != 4 {
		return point{}, api.ErrEcdsaKey
	}
	p := point{new(big.Int).SetBytes(key[1:33]), new(big.Int).SetBytes(key[33:])}
	if !isOn(p.x, p.y) {
		return point{}, api.ErrEcdsaKey
	}
	return p, api.OK
}

// inRange tells whether a number may stand in a signature.
func inRange(v *big.Int) bool { return v.Sign() > 0 && v.Cmp(bigN) < 0 }

// partsOf is Split.
func partsOf(sig []byte) (r, s *big.Int, e api.Errno) {
	if len(sig) != 64 {
		return whole(0), whole(0), api.ErrEcdsaForm
	}
	r, s = new(big.Int).SetBytes(sig[:32]), new(big.Int).SetBytes(sig[32:])
	if !inRange(r) || !inRange(s) {
		return whole(0), whole(0), api.ErrEcdsaRange
	}
	return r, s, api.OK
}

// scalarOf is Scalar.
func scalarOf(digest []byte) *big.Int {
	return modN(new(big.Int).SetBytes(digest[:min(len(digest), 32)]))
}

// verified is Verify.
func verified(key, digest, sig []byte) api.Errno {
	p, e := keyOf(key)
	if e != api.OK {
		return e
	}
	r, s, e := partsOf(sig)
	if e != api.OK {
		return e
	}
	d := scalarOf(digest)
	sum := base.times(over(d, s)).plus(p.times(over(r, s)))
	if sum.isInfinity() || modN(sum.x).Cmp(r) != 0 {
		return api.ErrEcdsaWrong
	}
	return api.OK
}

// sigOf is a signature of two numbers, whether they may stand in one or not.
func sigOf(r, s *big.Int) []byte { return append(bytesOf(r), bytesOf(s)...) }

// signed is what P7.3 says that d signs a digest with, with k.
func signed(d, k *big.Int, digest []byte) (r, s *big.Int) {
	r = modN(base.times(k).x)
	s = over(plus(scalarOf(digest), times(r, d)), k)
	return r, s
}

// A source gives numbers that follow no short pattern, the same ones in each run.
type source uint64

func (s *source) next() uint64 {
	*s += 0x9e3779b97f4a7c15
	v := uint64(*s)
	v = (v ^ v>>30) * 0xbf58476d1ce4e5b9
	v = (v ^ v>>27) * 0x94d049bb133111eb
	return v ^ v>>31
}

// bytes are so many of any.
func (s *source) bytes(n int) []byte {
	b := make([]byte, n)
	for i := range b {
		b[i] = byte(s.next())
	}
	return b
}

// unit is a number from 1 to n - 1.
func (s *source) unit() *big.Int {
	v := new(big.Int).SetBytes(s.bytes(40))
	return plus(v.Mod(v, minus(bigN, whole(1))), whole(1))
}

// units are numbers from 1 to n - 1: about both ends, about the middle, those with one bit, and some that follow no short pattern.
func units() []*big.Int {
	var l []*big.Int
	half := new(big.Int).Rsh(bigN, 1)
	for i := range int64(3) {
		l = append(l, whole(i+1), minus(bigN, whole(i+1)), plus(half, whole(i)))
	}
	for _, n := range []uint{63, 64, 127, 128, 191, 192, 255} {
		l = append(l, new(big.Int).Lsh(whole(1), n))
	}
	s := source(1)
	for range 4 {
		l = append(l, s.unit())
	}
	return l
}

// noUnits are numbers below 2^256 that are none of them.
func noUnits() []*big.Int {
	top := new(big.Int).Lsh(whole(1), 256)
	return []*big.Int{
		whole(0), bigN, plus(bigN, whole(1)), plus(bigN, whole(2)), bigP, minus(bigP, whole(1)), plus(bigN, new(big.Int).Lsh(whole(1), 64)),
		minus(top, whole(1)), minus(top, whole(2)), new(big.Int).Xor(bigN, new(big.Int).Lsh(whole(1), 192)),
	}
}

// digests are some of all lengths: none, short ones, 32 bytes, longer ones; noughts, and what is n or more.
func digests() [][]byte {
	l := [][]byte{nil, {}, {0}, {1}, {255}, make([]byte, 32), make([]byte, 64)}
	for _, v := range append(noUnits(), units()...) {
		l = append(l, bytesOf(v))
	}
	s := source(2)
	for _, n := range []int{1, 2, 20, 31, 32, 33, 48, 64, 100} {
		l = append(l, s.bytes(n))
	}
	return l
}

// points are some of the curve's: small multiples of the base point and their opposites, some with X about 0, n and p, and some that follow no short pattern.
func points() []point {
	var l []point
	for i := range int64(5) {
		l = append(l, base.times(whole(i+1)), base.times(whole(-i-1)))
	}
	for i := int64(-40); i < 40; i++ {
		for _, from := range []*big.Int{whole(0), bigN, bigP} {
			x := plus(from, whole(i))
			if x.Sign() < 0 || x.Cmp(bigP) >= 0 {
				continue
			}
			if p, ok := at(x, uint(i&1)); ok {
				l = append(l, p)
			}
		}
	}
	s := source(3)
	for range 6 {
		l = append(l, base.times(s.unit()))
	}
	return l
}
