package curve_test

import (
	"fmt"
	"math"
	"math/big"

	"barbican/api"
)

// The chapter's sums on whole numbers, as it words them: what the package answers is held against these.

var (
	most = api.Num{math.MaxUint64, math.MaxUint64, math.MaxUint64, math.MaxUint64}

	bigP = hex("ffffffff00000001000000000000000000000000ffffffffffffffffffffffff")
	bigN = hex("ffffffff00000000ffffffffffffffffbce6faada7179e84f3b9cac2fc632551")
	bigB = hex("5ac635d8aa3a93e7b3ebbd55769886bc651d06b0cc53b0f63bce3c3e27d2604b")

	base = api.Point{
		X: num(hex("6b17d1f2e12c4247f8bce6e563a440f277037d812deb33a0f4a13945d898c296")),
		Y: num(hex("4fe342e2fe1a7f9b8ee7eb4a7c0f9e162bce33576b315ececbb6406837bf51f5")),
	}
	infinity = api.Point{Inf: true}
)

// show is a point as a text.
func show(p api.Point) string {
	return fmt.Sprintf("{%064x %064x %v}", of(p.X), of(p.Y), p.Inf)
}

// hex is a whole number of its digits.
func hex(s string) *big.Int {
	v, ok := new(big.Int).SetString(s, 16)
	if !ok {
		panic(s)
	}
	return v
}

// of is a number as a whole one.
func of(x api.Num) *big.Int {
	v := new(big.Int)
	for i := len(x) - 1; i >= 0; i-- {
		v.Lsh(v, 64)
		v.Or(v, new(big.Int).SetUint64(x[i]))
	}
	return v
}

// num is a whole number below 2^256.
func num(v *big.Int) api.Num {
	if v.Sign() < 0 || v.BitLen() > 256 {
		panic(v)
	}
	var x api.Num
	mask := new(big.Int).SetUint64(math.MaxUint64)
	for i := range x {
		x[i] = new(big.Int).And(v, mask).Uint64()
		v = new(big.Int).Rsh(v, 64)
	}
	return x
}

// more is x + n, for a sum from 0 to 2^256 - 1.
func more(x api.Num, n int64) api.Num {
	return num(new(big.Int).Add(of(x), big.NewInt(n)))
}

// modP is a whole number modulo p.
func modP(v *big.Int) *big.Int { return new(big.Int).Mod(v, bigP) }

// right is X^3 - 3 X + b modulo p.
func right(x *big.Int) *big.Int {
	v := new(big.Int).Mul(x, x)
	v.Mul(v, x).Sub(v, new(big.Int).Mul(big.NewInt(3), x)).Add(v, bigB)
	return modP(v)
}

// isOn tells whether a point is one of the curve's.
func isOn(p api.Point) bool {
	if p.Inf {
		return p.X == api.Num{} && p.Y == api.Num{}
	}
	x, y := of(p.X), of(p.Y)
	return x.Cmp(bigP) < 0 && y.Cmp(bigP) < 0 && modP(new(big.Int).Mul(y, y)).Cmp(right(x)) == 0
}

// opposite is the point whose sum with p is infinity.
func opposite(p api.Point) api.Point {
	if !p.Inf {
		p.Y = num(modP(new(big.Int).Neg(of(p.Y))))
	}
	return p
}

// together is a sum.
func together(p, q api.Point) api.Point {
	if p.Inf {
		return q
	}
	if q.Inf {
		return p
	}
	if p == opposite(q) {
		return infinity
	}
	xp, yp, xq, yq := of(p.X), of(p.Y), of(q.X), of(q.Y)
	rise, run := new(big.Int).Sub(yq, yp), modP(new(big.Int).Sub(xq, xp))
	if p == q {
		rise.Mul(xp, xp).Sub(rise, big.NewInt(1)).Mul(rise, big.NewInt(3))
		run.Lsh(yp, 1)
	}
	l := modP(rise.Mul(rise, run.ModInverse(run, bigP)))
	x := new(big.Int).Mul(l, l)
	x = modP(x.Sub(x, xp).Sub(x, xq))
	y := new(big.Int).Sub(xp, x)
	return api.Point{X: num(x), Y: num(modP(y.Mul(y, l).Sub(y, yp)))}
}

// times is the sum of p k times.
func times(k api.Num, p api.Point) api.Point {
	sum := infinity
	for v, i := of(k), 0; i < v.BitLen(); i++ {
		if v.Bit(i) == 1 {
			sum = together(sum, p)
		}
		p = together(p, p)
	}
	return sum
}

// at is the point with an X that has one, its Y even or odd.
func at(x *big.Int, odd uint) api.Point {
	y := new(big.Int).ModSqrt(right(x), bigP)
	if y.Bit(0) != odd {
		y.Sub(bigP, y)
	}
	return api.Point{X: num(x), Y: num(y)}
}

// A source gives numbers that follow no short pattern, the same ones in each run.
type source uint64

func (s *source) next() uint64 {
	*s += 0x9e3779b97f4a7c15
	v := uint64(*s)
	v = (v ^ v>>30) * 0xbf58476d1ce4e5b9
	v = (v ^ v>>27) * 0x94d049bb133111eb
	return v ^ v>>31
}

// num is any number.
func (s *source) num() api.Num {
	return api.Num{s.next(), s.next(), s.next(), s.next()}
}

// point is any point of the curve.
func (s *source) point() api.Point {
	for {
		x := modP(of(s.num()))
		if big.Jacobi(right(x), bigP) == 1 {
			return at(x, uint(s.next()&1))
		}
	}
}

// withSmallY are points whose Y is 1, 4, 5, 6, 9.
func withSmallY() []api.Point {
	return []api.Point{
		{X: num(hex("6916fac45e568b6b9e2e2ecd611b282e5fcc40a3067d601057f879ce5a8a73cc")), Y: api.Num{1}},
		{X: num(hex("7fafb72b9e2f17b87cc216b6785c0bfc860ed577216fd3c8f30a7a8707e613ca")), Y: api.Num{4}},
		{X: num(hex("d7325d7646cd60d80a92738ceb345f844cffaf35841022cab176f692de8de1d7")), Y: api.Num{5}},
		{X: num(hex("9b21c2de1da31d68731dbdaf97d7ab3f979131e28e3dc5b2077d5a7187914a78")), Y: api.Num{6}},
		{X: num(hex("14579b00f124175c62981b984b2c07d5b600d0a383e8aacf2a14dddb59bceb8b")), Y: api.Num{9}},
	}
}

// points are some of the curve's: infinity, small multiples of the base point and their opposites, some with coordinates about 0 and about p, and some that follow no short pattern.
func points() []api.Point {
	l := []api.Point{infinity}
	p := base
	for range 9 {
		l = append(l, p, opposite(p))
		p = together(p, base)
	}
	for _, x := range []int64{0, 5, 6, 8, 9} {
		l = append(l, at(big.NewInt(x), 0), at(big.NewInt(x), 1))
	}
	for _, x := range []int64{3, 4, 5, 6, 7, 10} {
		l = append(l, at(new(big.Int).Sub(bigP, big.NewInt(x)), uint(x&1)))
	}
	for _, p := range withSmallY() {
		l = append(l, p, opposite(p))
	}
	s := source(1)
	for range 12 {
		l = append(l, s.point())
	}
	return l
}

// noPoints are some that are none of the curve.
func noPoints() []api.Point {
	l := []api.Point{
		{}, {X: api.Num{1}}, {Y: api.Num{1}}, {X: num(bigP), Y: num(bigP)}, {X: most, Y: most}, {Y: num(bigB)},
		{Inf: true, X: api.Num{1}}, {Inf: true, Y: api.Num{1}}, {Inf: true, X: num(bigP)}, {Inf: true, Y: num(bigP)},
		{Inf: true, Y: api.Num{0, 0, 0, 1 << 63}}, {Inf: true, X: base.X, Y: base.Y},
		{X: base.X}, {Y: base.Y}, {X: base.Y, Y: base.X},
		{X: more(base.X, 1), Y: base.Y}, {X: base.X, Y: more(base.Y, 1)}, {X: base.X, Y: more(base.Y, -1)},
	}
	// What is a point's but for p: Y with an X about 0, X with a Y about 0.
	for _, x := range []int64{0, 5, 6, 8, 9} {
		for odd := range uint(2) {
			p := at(big.NewInt(x), odd)
			p.X = num(new(big.Int).Add(bigP, big.NewInt(x)))
			l = append(l, p)
		}
	}
	for _, p := range withSmallY() {
		p.Y = num(new(big.Int).Add(bigP, of(p.Y)))
		l = append(l, p)
	}
	// One bit beside a point, in each place.
	for i := range 256 {
		p, q := base, base
		p.X[i/64] ^= 1 << (i % 64)
		q.Y[i/64] ^= 1 << (i % 64)
		l = append(l, p, q)
	}
	return l
}

// scalars are numbers of all sizes: about 0, n, p, half of n, and 2^256.
func scalars() []api.Num {
	l := []api.Num{{}, {1}, {2}, {3}, {4}, {5}, {6}, {7}, {15}, {16}, {17}, {0, 1}, {0, 0, 1}, {0, 0, 0, 1}, {0, 0, 0, 1 << 63}, most, more(most, -1)}
	for i := int64(-4); i <= 4; i++ {
		l = append(l, more(num(bigN), i), more(num(bigP), i), more(num(new(big.Int).Rsh(bigN, 1)), i))
	}
	s := source(2)
	for range 4 {
		l = append(l, s.num())
	}
	return l
}
