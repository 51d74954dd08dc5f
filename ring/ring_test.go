package ring_test

import (
	"math"
	"testing"

	"barbican/api"
	"barbican/ring"
)

func polyIs(t *testing.T, p api.Poly, e api.Errno, want api.Poly) {
	t.Helper()
	if e != api.OK {
		t.Fatal(e)
	}
	if p != want {
		t.Fatalf("%v, not %v", p, want)
	}
}

// polyRefused holds an answer against the one error, which a polynomial without coefficients stands beside.
func polyRefused(t *testing.T, p api.Poly, e api.Errno) {
	t.Helper()
	if p != (api.Poly{}) || e != api.ErrRingRange {
		t.Fatalf("%v, %v", p, e)
	}
}

// must gives what a call answered, which must have no error.
func must(t *testing.T) func(api.Poly, api.Errno) api.Poly {
	return func(p api.Poly, e api.Errno) api.Poly {
		t.Helper()
		if e != api.OK {
			t.Fatal(e)
		}
		return p
	}
}

// numberIs holds two numbers against what they should be.
func numberIs(t *testing.T, r, high, low int32, e api.Errno, wantHigh, wantLow int32) {
	t.Helper()
	if high != wantHigh || low != wantLow || e != api.OK {
		t.Fatalf("%d: %d, %d, %v, not %d, %d", r, high, low, e, wantHigh, wantLow)
	}
}

// Errors: a polynomial that is not plain, at each place, beside good ones and beside other bad ones.

func TestPolynomialsThatAreNotPlain(t *testing.T) {
	s := source(3)
	good := s.poly()
	one := []func(api.Poly) (api.Poly, api.Errno){ring.NTT, ring.Back}
	two := []func(a, b api.Poly) (api.Poly, api.Errno){ring.Add, ring.Sub, ring.Mul, ring.Times}
	for _, c := range noNumbers() {
		for i := range good {
			bad := good
			bad[i] = c
			for _, p := range []api.Poly{bad, term(c, i)} {
				for _, call := range one {
					v, e := call(p)
					polyRefused(t, v, e)
				}
				for _, call := range two {
					for _, both := range [][2]api.Poly{{p, good}, {good, p}, {p, p}, {p, {}}, {{}, p}} {
						v, e := call(both[0], both[1])
						polyRefused(t, v, e)
					}
				}
				if n, e := ring.Norm(p); n != 0 || e != api.ErrRingRange {
					t.Fatal(n, e)
				}
			}
		}
	}
}

// Two that are not plain are refused, whatever they would come to together.
func TestTwoThatMakeAPlainOne(t *testing.T) {
	for _, call := range []func(a, b api.Poly) (api.Poly, api.Errno){ring.Add, ring.Sub, ring.Mul, ring.Times} {
		for _, c := range [][2]int32{{-1, 1}, {-1, -1}, {modulus, 0}, {0, modulus}, {modulus, modulus}, {modulus + 1, 1}, {math.MinInt32, math.MinInt32}} {
			p, e := call(all(c[0]), all(c[1]))
			polyRefused(t, p, e)
		}
	}
}

func TestPlainUpToTheEnds(t *testing.T) {
	for _, c := range []int32{0, 1, half, half + 1, modulus - 2, modulus - 1} {
		polyIs(t, must(t)(ring.Add(all(c), api.Poly{})), api.OK, all(c))
		polyIs(t, must(t)(ring.Add(api.Poly{}, all(c))), api.OK, all(c))
	}
}

// Errors: numbers.

func TestNumbersOutOfRange(t *testing.T) {
	others := append(noNumbers(), edges()...)
	for _, bad := range noNumbers() {
		if a, b, e := ring.Power2Round(bad); a != 0 || b != 0 || e != api.ErrRingRange {
			t.Error(bad, a, b, e)
		}
		if a, b, e := ring.Decompose(bad); a != 0 || b != 0 || e != api.ErrRingRange {
			t.Error(bad, a, b, e)
		}
		for _, h := range []bool{false, true} {
			if a, e := ring.UseHint(h, bad); a != 0 || e != api.ErrRingRange {
				t.Error(h, bad, a, e)
			}
		}
		for _, other := range others {
			if h, e := ring.MakeHint(bad, other); h || e != api.ErrRingRange {
				t.Error(bad, other, h, e)
			}
			if h, e := ring.MakeHint(other, bad); h || e != api.ErrRingRange {
				t.Error(other, bad, h, e)
			}
		}
	}
}

func TestQ(t *testing.T) {
	if ring.Q != modulus {
		t.Error(ring.Q)
	}
}

// P8.1: Reduce.

func TestReduce(t *testing.T) {
	check := func(p api.Poly) {
		t.Helper()
		if got, want := ring.Reduce(p), eachPlace(p, api.Poly{}, func(x, _ int64) int64 { return x }); got != want {
			t.Fatalf("%v: %v, not %v", p, got, want)
		}
	}
	for _, c := range append(noNumbers(), edges()...) {
		check(all(c))
	}
	// About all multiples of Q there are.
	for k := int64(-257); k <= 257; k++ {
		for d := int64(-2); d <= 2; d++ {
			if v := k*modulus + d; v >= math.MinInt32 && v <= math.MaxInt32 {
				check(api.Poly{0, int32(v), 1})
			}
		}
	}
	s := source(4)
	for range 300 {
		var p api.Poly
		for i := range p {
			p[i] = int32(uint32(s.next()))
		}
		check(p)
	}
}

func TestReduceAtEachPlace(t *testing.T) {
	for i := range 256 {
		if got := ring.Reduce(term(-1, i)); got != term(modulus-1, i) {
			t.Fatal(i, got)
		}
		if got := ring.Reduce(term(modulus, i)); got != (api.Poly{}) {
			t.Fatal(i, got)
		}
	}
}

// P8.1: Add, Sub, Times.

func TestAdd(t *testing.T) {
	pairs(func(a, b api.Poly) {
		p, e := ring.Add(a, b)
		polyIs(t, p, e, eachPlace(a, b, func(x, y int64) int64 { return x + y }))
	})
}

func TestSub(t *testing.T) {
	pairs(func(a, b api.Poly) {
		p, e := ring.Sub(a, b)
		polyIs(t, p, e, eachPlace(a, b, func(x, y int64) int64 { return x - y }))
	})
}

func TestTimes(t *testing.T) {
	pairs(func(a, b api.Poly) {
		p, e := ring.Times(a, b)
		polyIs(t, p, e, eachPlace(a, b, func(x, y int64) int64 { return x * y }))
	})
}

// P8.1: Mul.

func TestMul(t *testing.T) {
	pairs(func(a, b api.Poly) {
		p, e := ring.Mul(a, b)
		polyIs(t, p, e, product(a, b))
	})
}

// X^i times X^j is X^(i+j), or, from 256 on, -X^(i+j-256).
func TestMulOfPowersOfX(t *testing.T) {
	for i := range 256 {
		for _, j := range []int{0, 1, 2, 64, 127, 128, 200, 254, 255, 255 - i, (256 - i) % 256} {
			want := term(1, (i+j)%256)
			if i+j >= 256 {
				want = term(modulus-1, (i+j)%256)
			}
			p, e := ring.Mul(term(1, i), term(1, j))
			polyIs(t, p, e, want)
		}
	}
}

// P8.1: NTT and Back.

func TestNTT(t *testing.T) {
	for _, p := range polys() {
		v, e := ring.NTT(p)
		polyIs(t, v, e, values(p))
	}
	for i := range 256 {
		v, e := ring.NTT(term(1, i))
		polyIs(t, v, e, values(term(1, i)))
	}
}

// The values of X are where the others are taken: each at its place.
func TestValuesOfX(t *testing.T) {
	v, _ := ring.NTT(api.Poly{0, 1})
	for j, c := range v {
		if want := power(1753, 2*turned(j)+1); int64(c) != want {
			t.Errorf("%d: %d, not %d", j, c, want)
		}
		if power(int64(c), 256) != modulus-1 {
			t.Errorf("%d: the power 256 of %d is not -1", j, c)
		}
	}
}

func TestBack(t *testing.T) {
	l := polys()
	for i := range 256 {
		l = append(l, term(1, i))
	}
	for _, v := range l {
		p := must(t)(ring.Back(v))
		if !plainAll(p) {
			t.Fatal(p)
		}
		polyIs(t, values(p), api.OK, v)
	}
}

// plainAll tells whether all coefficients are 0 to Q - 1.
func plainAll(p api.Poly) bool {
	for _, c := range p {
		if !isPlain(c) {
			return false
		}
	}
	return true
}

// P8.1: Norm.

func TestNorm(t *testing.T) {
	s := source(5)
	l := polys()
	for range 50 {
		// Small ones on both sides of 0.
		var p api.Poly
		for i := range p {
			p[i] = int32(rest(int64(s.next()%2001)-1000, modulus))
		}
		l = append(l, p)
	}
	for _, p := range l {
		if n, e := ring.Norm(p); n != norm(p) || e != api.OK {
			t.Fatal(n, e, norm(p))
		}
	}
}

func TestNormAtEachPlace(t *testing.T) {
	for i := range 256 {
		for _, c := range [][2]int32{{0, 0}, {1, 1}, {modulus - 1, 1}, {half, half}, {half + 1, half}, {half - 1, half - 1}, {half + 2, half - 1}, {modulus - 77, 77}} {
			if n, e := ring.Norm(term(c[0], i)); n != c[1] || e != api.OK {
				t.Fatal(i, c, n, e)
			}
		}
	}
}

// P8.2, of each number there is.

func TestPower2Round(t *testing.T) {
	for r := range int32(modulus) {
		high, low, e := ring.Power2Round(r)
		if r != 8192*high+low || low <= -4096 || low > 4096 || e != api.OK {
			t.Fatal(r, high, low, e)
		}
	}
}

func TestDecompose(t *testing.T) {
	for r := range int32(modulus) {
		high, low, e := ring.Decompose(r)
		if wantHigh, wantLow := decomposed(r); high != wantHigh || low != wantLow || e != api.OK {
			t.Fatal(r, high, low, e, wantHigh, wantLow)
		}
		if high < 0 || high > 15 {
			t.Fatal(r, high)
		}
	}
}

// P8.3.

func TestMakeHint(t *testing.T) {
	for _, r := range edges() {
		for _, z := range edges() {
			want := highOf(int64(r)) != highOf(int64(r)+int64(z))
			if h, e := ring.MakeHint(z, r); h != want || e != api.OK {
				t.Fatal(z, r, h, e)
			}
		}
	}
	s := source(6)
	for range 1000000 {
		z, r := s.number(), s.number()
		if s.next()%2 == 0 {
			z = int32(rest(int64(s.next()%523777)-261888, modulus))
		}
		want := highOf(int64(r)) != highOf(int64(r)+int64(z))
		if h, e := ring.MakeHint(z, r); h != want || e != api.OK {
			t.Fatal(z, r, h, e)
		}
	}
}

func TestUseHint(t *testing.T) {
	for r := range int32(modulus) {
		for _, h := range []bool{false, true} {
			if high, e := ring.UseHint(h, r); high != corrected(h, r) || e != api.OK {
				t.Fatal(h, r, high, e)
			}
		}
	}
}

// P8.4.

func TestThereAndBack(t *testing.T) {
	s := source(7)
	l := polys()
	for range 500 {
		l = append(l, s.poly(), s.edgy())
	}
	for _, p := range l {
		polyIs(t, must(t)(ring.Back(must(t)(ring.NTT(p)))), api.OK, p)
		polyIs(t, must(t)(ring.NTT(must(t)(ring.Back(p)))), api.OK, p)
	}
}

func TestValuesOfAProduct(t *testing.T) {
	pairs(func(a, b api.Poly) {
		each := must(t)(ring.Times(must(t)(ring.NTT(a)), must(t)(ring.NTT(b))))
		polyIs(t, must(t)(ring.NTT(must(t)(ring.Mul(a, b)))), api.OK, each)
		polyIs(t, must(t)(ring.NTT(must(t)(ring.Add(a, b)))), api.OK, must(t)(ring.Add(must(t)(ring.NTT(a)), must(t)(ring.NTT(b)))))
	})
}

func TestLaws(t *testing.T) {
	s := source(8)
	is := func(p, q api.Poly) {
		t.Helper()
		polyIs(t, p, api.OK, q)
	}
	add := func(a, b api.Poly) api.Poly { return must(t)(ring.Add(a, b)) }
	sub := func(a, b api.Poly) api.Poly { return must(t)(ring.Sub(a, b)) }
	mul := func(a, b api.Poly) api.Poly { return must(t)(ring.Mul(a, b)) }
	for range 100 {
		a, b, c := s.poly(), s.edgy(), s.poly()
		is(add(a, b), add(b, a))
		is(add(add(a, b), c), add(a, add(b, c)))
		is(add(a, api.Poly{}), a)
		is(sub(a, a), api.Poly{})
		is(add(sub(a, b), b), a)
		is(mul(a, b), mul(b, a))
		is(mul(mul(a, b), c), mul(a, mul(b, c)))
		is(mul(a, api.Poly{1}), a)
		is(mul(a, api.Poly{}), api.Poly{})
		is(mul(a, api.Poly{modulus - 1}), sub(api.Poly{}, a))
		is(mul(add(a, b), c), add(mul(a, c), mul(b, c)))
		is(mul(sub(a, b), c), sub(mul(a, c), mul(b, c)))
	}
}

// hinted holds what a hint tells of a sum against the sum's high part.
func hinted(t *testing.T, z int64, r int32) {
	t.Helper()
	h, e := ring.MakeHint(int32(rest(z, modulus)), r)
	if e != api.OK {
		t.Fatal(z, r, e)
	}
	if high, e := ring.UseHint(h, r); high != highOf(int64(r)+z) || e != api.OK {
		t.Fatalf("%d + %d: %v, %d, %v, not %d", r, z, h, high, e, highOf(int64(r)+z))
	}
}

func TestHintOfASum(t *testing.T) {
	zs := []int64{-261888, -261887, -261886, -2, -1, 0, 1, 2, 261886, 261887, 261888}
	s := source(9)
	for range 20 {
		zs = append(zs, int64(s.next()%523777)-261888)
	}
	for _, r := range edges() {
		for _, z := range zs {
			hinted(t, z, r)
		}
	}
	for range 500000 {
		hinted(t, int64(s.next()%523777)-261888, s.number())
	}
}

// Rules: what is handed in stays, and calls ahead of one change nothing of it.

func TestSameTwice(t *testing.T) {
	s := source(10)
	a, b := s.poly(), s.poly()
	keptA, keptB := a, b
	var first [8]api.Poly
	for i := range 2 {
		got := [8]api.Poly{
			ring.Reduce(a), must(t)(ring.Add(a, b)), must(t)(ring.Sub(a, b)), must(t)(ring.Mul(a, b)),
			must(t)(ring.NTT(a)), must(t)(ring.Back(a)), must(t)(ring.Times(a, b)), must(t)(ring.NTT(b)),
		}
		if i == 0 {
			first = got
		}
		if got != first || a != keptA || b != keptB {
			t.Fatal(i)
		}
		v, e := ring.Mul(a, all(modulus))
		polyRefused(t, v, e)
	}
}

// The chapter's examples.

func TestExamples(t *testing.T) {
	if p := ring.Reduce(api.Poly{-1}); p != (api.Poly{ring.Q - 1}) {
		t.Error(p)
	}
	if n, e := ring.Norm(api.Poly{ring.Q - 1}); n != 1 || e != api.OK {
		t.Error(n, e)
	}
	v, e := ring.NTT(api.Poly{1})
	polyIs(t, v, e, all(1))
	if v, e = ring.NTT(api.Poly{0, 1}); v[0] != 1753 || e != api.OK {
		t.Error(v[0], e)
	}
	v, e = ring.Mul(term(1, 255), term(1, 1))
	polyIs(t, v, e, api.Poly{ring.Q - 1})
	for _, c := range [][3]int32{{4096, 0, 4096}, {4097, 1, -4095}, {ring.Q - 1, 1023, 0}} {
		high, low, e := ring.Power2Round(c[0])
		numberIs(t, c[0], high, low, e, c[1], c[2])
	}
	for _, c := range [][3]int32{{261888, 0, 261888}, {261889, 1, -261887}, {ring.Q - 1, 0, -1}, {ring.Q - 261889, 15, 261888}} {
		high, low, e := ring.Decompose(c[0])
		numberIs(t, c[0], high, low, e, c[1], c[2])
	}
	for _, c := range []struct {
		h       bool
		r, want int32
	}{{true, 0, 15}, {true, 1, 1}, {false, 1, 0}} {
		if high, e := ring.UseHint(c.h, c.r); high != c.want || e != api.OK {
			t.Error(c, high, e)
		}
	}
}
