package curve_test

import (
	"bytes"
	"crypto/elliptic"
	"math/big"
	"slices"
	"testing"

	"barbican/api"
	"barbican/curve"
)

func agrees(t *testing.T, p api.Point, e api.Errno, want api.Point) {
	t.Helper()
	if p != want || e != api.OK {
		t.Fatalf("%s, %v, not %s", show(p), e, show(want))
	}
}

func refused(t *testing.T, p api.Point, e, want api.Errno) {
	t.Helper()
	if p != (api.Point{}) || e != want {
		t.Fatalf("%s, %v, not nothing and %v", show(p), e, want)
	}
}

// must is what a call answers that is not to be refused.
func must(t *testing.T) func(api.Point, api.Errno) api.Point {
	return func(p api.Point, e api.Errno) api.Point {
		t.Helper()
		if e != api.OK {
			t.Fatal(e)
		}
		return p
	}
}

// wholeBytes are those of coordinates, on the curve or not.
func wholeBytes(p api.Point) []byte {
	b := make([]byte, 65)
	b[0] = 4
	of(p.X).FillBytes(b[1:33])
	of(p.Y).FillBytes(b[33:])
	return b
}

// packedBytes are those of an X, with any first byte.
func packedBytes(head byte, x *big.Int) []byte {
	b := make([]byte, 33)
	b[0] = head
	x.FillBytes(b[1:])
	return b
}

// P6.1: Base, On.

func TestBase(t *testing.T) {
	if p := curve.Base(); p != base {
		t.Errorf("%s", show(p))
	}
}

func TestOn(t *testing.T) {
	for _, p := range points() {
		if !isOn(p) || !curve.On(p) {
			t.Errorf("not on the curve: %s", show(p))
		}
	}
}

func TestNotOn(t *testing.T) {
	for _, p := range noPoints() {
		if isOn(p) || curve.On(p) {
			t.Errorf("on the curve: %s", show(p))
		}
	}
}

// Of all numbers about 0 and p as coordinates.
func TestOnOfSmall(t *testing.T) {
	for x := int64(-12); x < 12; x++ {
		for y := int64(-12); y < 12; y++ {
			for _, p := range []api.Point{
				{X: more(num(bigP), x), Y: more(num(bigP), y)},
				{X: num(modP(big.NewInt(x))), Y: num(modP(big.NewInt(y)))},
			} {
				if curve.On(p) != isOn(p) {
					t.Errorf("%s", show(p))
				}
			}
		}
	}
}

// P6.1: Decode.

func TestDecode(t *testing.T) {
	for _, p := range points() {
		if p.Inf {
			continue
		}
		got, e := curve.Decode(wholeBytes(p))
		agrees(t, got, e, p)
		got, e = curve.Decode(packedBytes(2+byte(p.Y[0]&1), of(p.X)))
		agrees(t, got, e, p)
		// The other one with this X.
		got, e = curve.Decode(packedBytes(3-byte(p.Y[0]&1), of(p.X)))
		agrees(t, got, e, opposite(p))
	}
}

func TestDecodeOfNoPoint(t *testing.T) {
	for _, p := range noPoints() {
		if p.Inf {
			continue
		}
		got, e := curve.Decode(wholeBytes(p))
		refused(t, got, e, api.ErrCurvePoint)
	}
}

// All X's from 0 on, and those about p: from p on they are none, whatever they are modulo p.
func TestDecodePackedOfEachX(t *testing.T) {
	check := func(x *big.Int) {
		for odd := range uint(2) {
			got, e := curve.Decode(packedBytes(2+byte(odd), x))
			if x.Cmp(bigP) < 0 && big.Jacobi(right(x), bigP) == 1 {
				agrees(t, got, e, at(x, odd))
			} else {
				refused(t, got, e, api.ErrCurvePoint)
			}
		}
	}
	for x := range int64(200) {
		check(big.NewInt(x))
	}
	for x := int64(-60); x < 60; x++ {
		check(new(big.Int).Add(bigP, big.NewInt(x)))
	}
	check(of(most))
}

// Other lengths, and other first bytes, however good the rest is.
func TestDecodeOfOtherForms(t *testing.T) {
	good := wholeBytes(base)
	good = append(good, good...)
	for n := range len(good) + 1 {
		for head := range 256 {
			b := slices.Clone(good[:n])
			if n > 0 {
				b[0] = byte(head)
			}
			got, e := curve.Decode(b)
			switch {
			case n == 65 && head == 4:
				agrees(t, got, e, base)
			case n == 33 && head == 3:
				agrees(t, got, e, base)
			case n == 33 && head == 2:
				agrees(t, got, e, opposite(base))
			default:
				refused(t, got, e, api.ErrCurveForm)
			}
		}
	}
	got, e := curve.Decode(nil)
	refused(t, got, e, api.ErrCurveForm)
	got, e = curve.Decode(make([]byte, 1<<16))
	refused(t, got, e, api.ErrCurveForm)
}

// Rule 4: the bytes are left as they are, and what lies behind them is not read.
func TestDecodeLeavesItsBytes(t *testing.T) {
	b := append(wholeBytes(base), 1, 2, 3)
	was := slices.Clone(b)
	got, e := curve.Decode(b[:65])
	agrees(t, got, e, base)
	b[0], was[0] = 3, 3
	got, e = curve.Decode(b[:33])
	agrees(t, got, e, base)
	got, e = curve.Decode(b[:32])
	refused(t, got, e, api.ErrCurveForm)
	if !bytes.Equal(b, was) {
		t.Errorf("%x", b)
	}
}

// P6.1: Encode, Pack.

func TestEncodeAndPack(t *testing.T) {
	for _, p := range points() {
		if p.Inf {
			continue
		}
		b, e := curve.Encode(p)
		if !bytes.Equal(b, wholeBytes(p)) || e != api.OK {
			t.Errorf("%s: %x, %v", show(p), b, e)
		}
		b, e = curve.Pack(p)
		if !bytes.Equal(b, packedBytes(2+byte(p.Y[0]&1), of(p.X))) || e != api.OK {
			t.Errorf("%s: %x, %v", show(p), b, e)
		}
	}
}

func TestNoBytes(t *testing.T) {
	for _, p := range append(noPoints(), infinity) {
		for _, call := range []func(api.Point) ([]byte, api.Errno){curve.Encode, curve.Pack} {
			if b, e := call(p); len(b) != 0 || e != api.ErrCurvePoint {
				t.Errorf("%s: %x, %v", show(p), b, e)
			}
		}
	}
}

// Rule 4: what is answered is new memory.
func TestBytesAreNew(t *testing.T) {
	for _, call := range []func(api.Point) ([]byte, api.Errno){curve.Encode, curve.Pack} {
		first, _ := call(base)
		was := slices.Clone(first)
		second, _ := call(base)
		clear(first[:cap(first)])
		third, _ := call(base)
		if !bytes.Equal(second, was) || !bytes.Equal(third, was) {
			t.Errorf("%x, %x, not %x", second, third, was)
		}
	}
}

// P6.2: Neg, Add, Mul, Two.

func TestRefused(t *testing.T) {
	for _, p := range noPoints() {
		got, e := curve.Neg(p)
		refused(t, got, e, api.ErrCurvePoint)
		for _, q := range []api.Point{infinity, base, p, {}} {
			got, e = curve.Add(p, q)
			refused(t, got, e, api.ErrCurvePoint)
			got, e = curve.Add(q, p)
			refused(t, got, e, api.ErrCurvePoint)
		}
		// No number of times makes it good.
		for _, k := range []api.Num{{}, {1}, num(bigN), most} {
			got, e = curve.Mul(k, p)
			refused(t, got, e, api.ErrCurvePoint)
			for _, q := range []api.Point{infinity, base, p} {
				got, e = curve.Two(k, p, api.Num{1}, q)
				refused(t, got, e, api.ErrCurvePoint)
				got, e = curve.Two(api.Num{}, q, k, p)
				refused(t, got, e, api.ErrCurvePoint)
			}
		}
	}
}

func TestNeg(t *testing.T) {
	for _, p := range points() {
		got, e := curve.Neg(p)
		agrees(t, got, e, opposite(p))
		got, e = curve.Add(p, got)
		agrees(t, got, e, infinity)
	}
}

func TestAdd(t *testing.T) {
	for _, p := range points() {
		for _, q := range points() {
			got, e := curve.Add(p, q)
			agrees(t, got, e, together(p, q))
		}
	}
}

func TestMul(t *testing.T) {
	for _, p := range []api.Point{infinity, base, opposite(base), at(new(big.Int), 0), at(new(big.Int).Sub(bigP, big.NewInt(3)), 1)} {
		for _, k := range scalars() {
			got, e := curve.Mul(k, p)
			agrees(t, got, e, times(k, p))
		}
	}
}

func TestMulByFew(t *testing.T) {
	s := source(3)
	p := s.point()
	up, down := infinity, infinity
	for i := range int64(70) {
		got, e := curve.Mul(api.Num{uint64(i)}, p)
		agrees(t, got, e, up)
		got, e = curve.Mul(more(num(bigN), -i), p)
		agrees(t, got, e, down)
		got, e = curve.Mul(more(num(bigN), i), p)
		agrees(t, got, e, up)
		up, down = together(up, p), together(down, opposite(p))
	}
}

// The library's P-256 agrees, where no part is infinity.
func TestMulAsTheLibrary(t *testing.T) {
	lib := elliptic.P256()
	point := func(x, y *big.Int) api.Point { return api.Point{X: num(x), Y: num(y)} }
	s := source(4)
	p := s.point()
	for range 60 {
		k, l := s.num(), s.num()
		got, e := curve.Mul(k, base)
		want := point(lib.ScalarBaseMult(of(k).FillBytes(make([]byte, 32))))
		agrees(t, got, e, want)
		other := point(lib.ScalarMult(of(p.X), of(p.Y), of(l).FillBytes(make([]byte, 32))))
		got, e = curve.Mul(l, p)
		agrees(t, got, e, other)
		both := point(lib.Add(of(want.X), of(want.Y), of(other.X), of(other.Y)))
		got, e = curve.Two(k, base, l, p)
		agrees(t, got, e, both)
		p = both
	}
}

// Both points the same, opposite ones, multiples of one another, infinity: sums on the way come to one of them, to infinity, to one point twice.
func TestTwoOfFew(t *testing.T) {
	var multiples [40]api.Point
	multiples[0] = infinity
	for i := 1; i < len(multiples); i++ {
		multiples[i] = together(multiples[i-1], base)
	}
	multiple := func(i int) api.Point {
		if i < 0 {
			return opposite(multiples[-i])
		}
		return multiples[i]
	}
	for i := -3; i <= 3; i++ {
		for j := -3; j <= 3; j++ {
			for u := range 6 {
				for v := range 6 {
					got, e := curve.Two(api.Num{uint64(u)}, multiple(i), api.Num{uint64(v)}, multiple(j))
					agrees(t, got, e, multiple(i*u+j*v))
				}
			}
		}
	}
}

func TestTwo(t *testing.T) {
	s := source(5)
	p, q := s.point(), s.point()
	for _, u := range scalars() {
		up := times(u, p)
		for _, v := range []api.Num{{}, {1}, {3}, more(num(bigN), -1), num(bigN), more(num(bigN), 2), most, s.num(), u} {
			got, e := curve.Two(u, p, v, q)
			agrees(t, got, e, together(up, times(v, q)))
		}
	}
}

// The sum of k times a point and k times its opposite is infinity, whatever k is, and n - k times it too.
func TestTwoOfOpposites(t *testing.T) {
	s := source(6)
	p := s.point()
	for _, k := range scalars() {
		got, e := curve.Two(k, p, k, opposite(p))
		agrees(t, got, e, infinity)
		if of(k).Cmp(bigN) <= 0 {
			got, e = curve.Two(k, p, num(new(big.Int).Sub(bigN, of(k))), p)
			agrees(t, got, e, infinity)
		}
	}
}

// P6.3.

func TestOrderAndGrouping(t *testing.T) {
	ok := must(t)
	l := points()
	s := source(7)
	for range 400 {
		p, q, r := l[s.next()%uint64(len(l))], l[s.next()%uint64(len(l))], l[s.next()%uint64(len(l))]
		if ok(curve.Add(p, q)) != ok(curve.Add(q, p)) {
			t.Errorf("order: %s, %s", show(p), show(q))
		}
		if ok(curve.Add(ok(curve.Add(p, q)), r)) != ok(curve.Add(p, ok(curve.Add(q, r)))) {
			t.Errorf("grouping: %s, %s, %s", show(p), show(q), show(r))
		}
	}
}

func TestSumOfMultiples(t *testing.T) {
	ok := must(t)
	s := source(8)
	for range 60 {
		p, k, l := s.point(), s.num(), s.num()
		k[3] >>= 1
		l[3] >>= 1
		both := num(new(big.Int).Add(of(k), of(l)))
		want := ok(curve.Mul(both, p))
		got, e := curve.Add(ok(curve.Mul(k, p)), ok(curve.Mul(l, p)))
		agrees(t, got, e, want)
		got, e = curve.Two(k, p, l, p)
		agrees(t, got, e, want)
		got, e = curve.Two(k, p, l, opposite(p))
		agrees(t, got, e, ok(curve.Add(ok(curve.Mul(k, p)), ok(curve.Neg(ok(curve.Mul(l, p)))))))
	}
}

func TestMulByN(t *testing.T) {
	for _, p := range points() {
		got, e := curve.Mul(num(bigN), p)
		agrees(t, got, e, infinity)
		got, e = curve.Mul(more(num(bigN), 1), p)
		agrees(t, got, e, p)
		got, e = curve.Mul(more(num(bigN), -1), p)
		agrees(t, got, e, opposite(p))
	}
}

func TestDecodeTakesBack(t *testing.T) {
	s := source(9)
	for range 100 {
		p := s.point()
		b, _ := curve.Encode(p)
		got, e := curve.Decode(b)
		agrees(t, got, e, p)
		b, _ = curve.Pack(p)
		got, e = curve.Decode(b)
		agrees(t, got, e, p)
	}
}

// The chapter's examples.

func TestExamples(t *testing.T) {
	if !curve.On(infinity) || curve.On(api.Point{}) || curve.On(api.Point{Inf: true, X: api.Num{1}}) {
		t.Error("On")
	}
	got, e := curve.Decode([]byte{})
	refused(t, got, e, api.ErrCurveForm)
	got, e = curve.Decode(append([]byte{4}, make([]byte, 64)...))
	refused(t, got, e, api.ErrCurvePoint)
	got, e = curve.Decode(append([]byte{5}, make([]byte, 32)...))
	refused(t, got, e, api.ErrCurveForm)

	b, e := curve.Pack(curve.Base())
	if !bytes.Equal(b, packedBytes(3, hex("6b17d1f2e12c4247f8bce6e563a440f277037d812deb33a0f4a13945d898c296"))) || e != api.OK {
		t.Errorf("%x, %v", b, e)
	}
	got, e = curve.Mul(api.Num{2}, curve.Base())
	if got.X != num(hex("7cf27b188d034f7e8a52380304b51ac3c08969e277f21b35a60b48fc47669978")) || e != api.OK {
		t.Errorf("%s, %v", show(got), e)
	}
	opposite, e := curve.Neg(curve.Base())
	if e != api.OK {
		t.Error(e)
	}
	got, e = curve.Add(curve.Base(), opposite)
	agrees(t, got, e, infinity)
	got, e = curve.Mul(num(bigN), curve.Base())
	agrees(t, got, e, infinity)
	got, e = curve.Mul(more(num(bigN), -1), curve.Base())
	agrees(t, got, e, opposite)
}

// P2: the calls ahead of one change nothing of it.
func TestSameTwice(t *testing.T) {
	ok := must(t)
	s := source(10)
	for range 10 {
		p, q, k, l := s.point(), s.point(), s.num(), s.num()
		ask := func() [6]api.Point {
			return [6]api.Point{curve.Base(), ok(curve.Neg(p)), ok(curve.Add(p, q)), ok(curve.Mul(k, p)), ok(curve.Two(k, p, l, q)), ok(curve.Decode(wholeBytes(p)))}
		}
		first := ask()
		curve.Mul(l, q)
		curve.Add(api.Point{}, p)
		curve.Decode(packedBytes(2, of(q.X)))
		if ask() != first {
			t.Fatalf("%s, %s, %x, %x", show(p), show(q), k, l)
		}
	}
}
