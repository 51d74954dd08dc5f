package field_test

import (
	"math"
	"math/big"
	"testing"

	"barbican/api"
	"barbican/field"
)

var (
	most = api.Num{math.MaxUint64, math.MaxUint64, math.MaxUint64, math.MaxUint64}

	primeP = api.Num{0xffffffffffffffff, 0x00000000ffffffff, 0x0000000000000000, 0xffffffff00000001}
	primeN = api.Num{0xf3b9cac2fc632551, 0xbce6faada7179e84, 0xffffffffffffffff, 0xffffffff00000000}
)

// primes are the moduli by which.
func primes() map[int]api.Num {
	return map[int]api.Num{field.ModP: primeP, field.ModN: primeN}
}

// noKinds are what which must not be.
func noKinds() []int {
	return []int{0, 3, 4, -1, -2, 257, 258, 1<<32 + 1, 1<<32 + 2, math.MinInt, math.MinInt + 1, math.MaxInt}
}

// power is 2^n.
func power(n uint) *big.Int { return new(big.Int).Lsh(big.NewInt(1), n) }

// of is a number as a whole one.
func of(x api.Num) *big.Int {
	v := new(big.Int)
	for i := len(x) - 1; i >= 0; i-- {
		v.Lsh(v, 64)
		v.Or(v, new(big.Int).SetUint64(x[i]))
	}
	return v
}

// num is a whole number below 2^256.
func num(v *big.Int) api.Num {
	var x api.Num
	mask := new(big.Int).SetUint64(math.MaxUint64)
	for i := range x {
		x[i] = new(big.Int).And(v, mask).Uint64()
		v = new(big.Int).Rsh(v, 64)
	}
	return x
}

// less is x - n, for an x that is at least n.
func less(x api.Num, n int64) api.Num {
	return num(new(big.Int).Sub(of(x), big.NewInt(n)))
}

// more is x + n, for a sum below 2^256.
func more(x api.Num, n int64) api.Num {
	return num(new(big.Int).Add(of(x), big.NewInt(n)))
}

// formOf is the form of any whole number, as the chapter words it.
func formOf(v *big.Int, m api.Num) api.Num {
	f := new(big.Int).Mul(v, power(256))
	return num(f.Mod(f, of(m)))
}

// behind is the number whose form x is.
func behind(x, m api.Num) *big.Int {
	v := new(big.Int).ModInverse(power(256), of(m))
	v.Mul(v, of(x))
	return v.Mod(v, of(m))
}

// A source gives numbers that follow no short pattern, the same ones in each run.
type source uint64

func (s *source) next() uint64 {
	*s += 0x9e3779b97f4a7c15
	v := uint64(*s)
	v = (v ^ v>>30) * 0xbf58476d1ce4e5b9
	v = (v ^ v>>27) * 0x94d049bb133111eb
	return v ^ v>>31
}

// num is any number.
func (s *source) num() api.Num {
	return api.Num{s.next(), s.next(), s.next(), s.next()}
}

// below is a number below m.
func (s *source) below(m api.Num) api.Num {
	return num(new(big.Int).Mod(of(s.num()), of(m)))
}

// edgy is a number whose halves of words stand at the ends of their range or at its middle.
func (s *source) edgy() api.Num {
	ends := [8]uint64{0, 1, 2, 0x7fffffff, 0x80000000, 0x80000001, 0xfffffffe, 0xffffffff}
	var x api.Num
	for i := range x {
		v := s.next()
		x[i] = ends[v&7]<<32 | ends[v>>3&7]
	}
	return x
}

// anyNumbers are numbers of all sizes: about the primes, about the ends of words and of halves of them, and some that follow no short pattern.
func anyNumbers() []api.Num {
	l := []api.Num{{}, {1}, {2}, {3}, {4}, {5}, most, less(most, 1)}
	for _, m := range primes() {
		l = append(l, less(m, 2), less(m, 1), m, more(m, 1), more(m, 2))
		l = append(l, formOf(big.NewInt(1), m), formOf(of(less(m, 1)), m), formOf(power(256), m))
		l = append(l, num(new(big.Int).Rsh(of(m), 1)), more(num(new(big.Int).Rsh(of(m), 1)), 1))
	}
	for _, n := range []uint{31, 32, 33, 63, 64, 65, 96, 128, 160, 192, 224, 254, 255} {
		x := num(power(n))
		l = append(l, less(x, 1), x, more(x, 1))
	}
	s := source(1)
	for range 30 {
		l = append(l, s.edgy(), s.num())
	}
	return l
}

// forms are those of them that are below m.
func forms(m api.Num) []api.Num {
	var l []api.Num
	for _, x := range anyNumbers() {
		if of(x).Cmp(of(m)) < 0 {
			l = append(l, x)
		}
	}
	return l
}

// tooGreat are the numbers of m and more.
func tooGreat(m api.Num) []api.Num {
	l := []api.Num{m, more(m, 1), most, less(most, 1)}
	for _, x := range anyNumbers() {
		if of(x).Cmp(of(m)) >= 0 {
			l = append(l, x)
		}
	}
	return l
}

// pairs goes over two forms at a time, modulo each prime.
func pairs(look func(which int, m, a, b api.Num)) {
	for which, m := range primes() {
		l := forms(m)
		for _, a := range l {
			for _, b := range l {
				look(which, m, a, b)
			}
		}
	}
}

// singles goes over each form, modulo each prime.
func singles(look func(which int, m, a api.Num)) {
	for which, m := range primes() {
		for _, a := range forms(m) {
			look(which, m, a)
		}
	}
}

// must gives what a call answered, which must have no error.
func must(t *testing.T) func(api.Num, api.Errno) api.Num {
	return func(x api.Num, e api.Errno) api.Num {
		t.Helper()
		if e != api.OK {
			t.Fatal(e)
		}
		return x
	}
}

// refused holds an answer against an error, which none but a zero value stands beside.
func refused(t *testing.T, x api.Num, e, want api.Errno) {
	t.Helper()
	if x != (api.Num{}) || e != want {
		t.Errorf("%x, %v, not %v", x, e, want)
	}
}

// agrees holds an answer against a number.
func agrees(t *testing.T, x api.Num, e api.Errno, want api.Num) {
	t.Helper()
	if x != want || e != api.OK {
		t.Fatalf("%x, %v, not %x", x, e, want)
	}
}

// Errors: the kind.

func TestNoKind(t *testing.T) {
	// The kind is looked at first: numbers beyond the primes, and 0 without an inverse, change nothing.
	for _, which := range noKinds() {
		x, e := field.Modulus(which)
		refused(t, x, e, api.ErrFieldKind)
		for _, a := range []api.Num{{}, {1}, primeP, primeN, most} {
			for _, b := range []api.Num{{}, {1}, primeP, most} {
				x, e = field.Add(which, a, b)
				refused(t, x, e, api.ErrFieldKind)
				x, e = field.Sub(which, a, b)
				refused(t, x, e, api.ErrFieldKind)
				x, e = field.Mul(which, a, b)
				refused(t, x, e, api.ErrFieldKind)
				x, e = field.Pow(which, a, b)
				refused(t, x, e, api.ErrFieldKind)
			}
			x, e = field.In(which, a)
			refused(t, x, e, api.ErrFieldKind)
			x, e = field.Out(which, a)
			refused(t, x, e, api.ErrFieldKind)
			x, e = field.Inv(which, a)
			refused(t, x, e, api.ErrFieldKind)
		}
	}
}

// Errors: the range.

func TestOutOfRange(t *testing.T) {
	for which, m := range primes() {
		for _, a := range tooGreat(m) {
			x, e := field.Out(which, a)
			refused(t, x, e, api.ErrFieldRange)
			x, e = field.Inv(which, a)
			refused(t, x, e, api.ErrFieldRange)
			for _, b := range []api.Num{{}, {1}, less(m, 1), m, most} {
				for _, call := range []func(int, api.Num, api.Num) (api.Num, api.Errno){field.Add, field.Sub, field.Mul} {
					x, e = call(which, a, b)
					refused(t, x, e, api.ErrFieldRange)
					x, e = call(which, b, a)
					refused(t, x, e, api.ErrFieldRange)
				}
				x, e = field.Pow(which, a, b)
				refused(t, x, e, api.ErrFieldRange)
			}
		}
	}
}

// The greater prime bounds its own forms alone.
func TestRangeIsThatOfTheKind(t *testing.T) {
	x, e := field.Out(field.ModP, primeN)
	if e != api.OK || x == (api.Num{}) {
		t.Errorf("n modulo p: %x, %v", x, e)
	}
	x, e = field.Out(field.ModN, less(primeP, 1))
	refused(t, x, e, api.ErrFieldRange)
}

// P5.1: Modulus, In, Out.

func TestModulus(t *testing.T) {
	p := new(big.Int).Sub(power(256), power(224))
	p.Add(p, power(192)).Add(p, power(96)).Sub(p, big.NewInt(1))
	x, e := field.Modulus(field.ModP)
	agrees(t, x, e, num(p))
	n, _ := new(big.Int).SetString("ffffffff00000000ffffffffffffffffbce6faada7179e84f3b9cac2fc632551", 16)
	x, e = field.Modulus(field.ModN)
	agrees(t, x, e, num(n))
	if field.ModP != 1 || field.ModN != 2 {
		t.Error(field.ModP, field.ModN)
	}
}

func TestIn(t *testing.T) {
	for which, m := range primes() {
		for _, x := range anyNumbers() {
			got, e := field.In(which, x)
			agrees(t, got, e, formOf(of(x), m))
		}
	}
}

func TestOut(t *testing.T) {
	singles(func(which int, m, a api.Num) {
		got, e := field.Out(which, a)
		agrees(t, got, e, num(behind(a, m)))
	})
}

func TestInAndOutOfManyNumbers(t *testing.T) {
	s := source(2)
	for which, m := range primes() {
		for i := range 5000 {
			x := s.num()
			if i%2 == 1 {
				x = s.edgy()
			}
			got, e := field.In(which, x)
			agrees(t, got, e, formOf(of(x), m))
			back, e := field.Out(which, got)
			agrees(t, back, e, num(new(big.Int).Mod(of(x), of(m))))
		}
	}
}

// P5.2: Add, Sub, Mul.

func TestAdd(t *testing.T) {
	pairs(func(which int, m, a, b api.Num) {
		got, e := field.Add(which, a, b)
		agrees(t, got, e, formOf(new(big.Int).Add(behind(a, m), behind(b, m)), m))
	})
}

func TestSub(t *testing.T) {
	pairs(func(which int, m, a, b api.Num) {
		got, e := field.Sub(which, a, b)
		agrees(t, got, e, formOf(new(big.Int).Sub(behind(a, m), behind(b, m)), m))
	})
}

func TestMul(t *testing.T) {
	pairs(func(which int, m, a, b api.Num) {
		got, e := field.Mul(which, a, b)
		agrees(t, got, e, formOf(new(big.Int).Mul(behind(a, m), behind(b, m)), m))
	})
}

func TestMulOfManyForms(t *testing.T) {
	s := source(3)
	for which, m := range primes() {
		// A form of a product is that of both forms, without 2^256 once.
		once := new(big.Int).ModInverse(power(256), of(m))
		for i := range 10000 {
			a, b := s.below(m), s.below(m)
			if i%2 == 1 {
				a, b = num(new(big.Int).Mod(of(s.edgy()), of(m))), num(new(big.Int).Mod(of(s.edgy()), of(m)))
			}
			want := new(big.Int).Mul(of(a), of(b))
			want.Mul(want, once).Mod(want, of(m))
			got, e := field.Mul(which, a, b)
			agrees(t, got, e, num(want))
		}
	}
}

// Sums and differences about the prime, 0 and 2^256.
func TestSumsAboutTheEnds(t *testing.T) {
	for which, m := range primes() {
		x, e := field.Add(which, less(m, 1), api.Num{1})
		agrees(t, x, e, api.Num{})
		x, e = field.Add(which, less(m, 2), api.Num{1})
		agrees(t, x, e, less(m, 1))
		x, e = field.Add(which, less(m, 1), less(m, 1))
		agrees(t, x, e, less(m, 2))
		x, e = field.Sub(which, api.Num{}, api.Num{1})
		agrees(t, x, e, less(m, 1))
		x, e = field.Sub(which, api.Num{}, less(m, 1))
		agrees(t, x, e, api.Num{1})
		x, e = field.Sub(which, less(m, 1), less(m, 1))
		agrees(t, x, e, api.Num{})
		// A sum of 2^256 just.
		rest := num(new(big.Int).Sub(power(256), of(less(m, 1))))
		x, e = field.Add(which, less(m, 1), rest)
		agrees(t, x, e, num(new(big.Int).Sub(power(256), of(m))))
	}
}

// P5.2: Pow.

// exponents are some of all sizes: no modulus bounds them.
func exponents() []api.Num {
	l := []api.Num{{}, {1}, {2}, {3}, {4}, {5}, {16}, {0xffff}, {0, 1}, {0, 0, 1}, {0, 0, 0, 1}, {0, 0, 0, 1 << 63}, most, less(most, 1)}
	for _, m := range primes() {
		l = append(l, less(m, 2), less(m, 1), m, more(m, 1))
	}
	s := source(4)
	return append(l, s.num(), s.num(), s.edgy(), s.edgy())
}

func TestPow(t *testing.T) {
	singles(func(which int, m, a api.Num) {
		for _, exponent := range exponents() {
			got, e := field.Pow(which, a, exponent)
			agrees(t, got, e, formOf(new(big.Int).Exp(behind(a, m), of(exponent), of(m)), m))
		}
	})
}

func TestPowByFew(t *testing.T) {
	singles(func(which int, m, a api.Num) {
		want := formOf(big.NewInt(1), m)
		for n := range uint64(20) {
			got, e := field.Pow(which, a, api.Num{n})
			agrees(t, got, e, want)
			want = must(t)(field.Mul(which, want, a))
		}
	})
}

func TestPowOfZero(t *testing.T) {
	for which, m := range primes() {
		for _, exponent := range exponents() {
			got, e := field.Pow(which, api.Num{}, exponent)
			if exponent == (api.Num{}) {
				agrees(t, got, e, formOf(big.NewInt(1), m))
			} else {
				agrees(t, got, e, api.Num{})
			}
		}
	}
}

// P5.2: Inv.

func TestInv(t *testing.T) {
	singles(func(which int, m, a api.Num) {
		if a == (api.Num{}) {
			return
		}
		got, e := field.Inv(which, a)
		agrees(t, got, e, formOf(new(big.Int).ModInverse(behind(a, m), of(m)), m))
	})
}

func TestInvOfZero(t *testing.T) {
	for which := range primes() {
		x, e := field.Inv(which, api.Num{})
		refused(t, x, e, api.ErrFieldZero)
	}
}

func TestInvOfOneAndLess(t *testing.T) {
	for which, m := range primes() {
		for _, v := range []*big.Int{big.NewInt(1), of(less(m, 1))} {
			got, e := field.Inv(which, formOf(v, m))
			agrees(t, got, e, formOf(v, m))
		}
	}
}

// P5.3: Root.

// checkRoot holds the root of a form against the library's.
func checkRoot(t *testing.T, a api.Num) {
	t.Helper()
	got, ok := field.Root(a)
	v := new(big.Int).ModSqrt(behind(a, primeP), of(primeP))
	if v == nil {
		if got != (api.Num{}) || ok {
			t.Fatalf("%x: %x, %v, not false", a, got, ok)
		}
		return
	}
	if v.Bit(0) == 1 {
		v.Sub(of(primeP), v)
	}
	if want := formOf(v, primeP); got != want || !ok {
		t.Fatalf("%x: %x, %v, not %x", a, got, ok, want)
	}
}

func TestRoot(t *testing.T) {
	for _, a := range forms(primeP) {
		checkRoot(t, a)
	}
	s := source(5)
	for range 500 {
		checkRoot(t, s.below(primeP))
	}
}

// The forms of small numbers, of their squares, and of what these lack of p.
func TestRootOfSmall(t *testing.T) {
	for n := range int64(200) {
		checkRoot(t, formOf(big.NewInt(n), primeP))
		checkRoot(t, formOf(big.NewInt(n*n), primeP))
		checkRoot(t, formOf(big.NewInt(-n), primeP))
		checkRoot(t, formOf(big.NewInt(-n*n), primeP))
	}
}

func TestRootOfSquares(t *testing.T) {
	for _, a := range forms(primeP) {
		square := must(t)(field.Mul(field.ModP, a, a))
		root, ok := field.Root(square)
		want := a
		if behind(a, primeP).Bit(0) == 1 {
			want = must(t)(field.Sub(field.ModP, api.Num{}, a))
		}
		if root != want || !ok {
			t.Errorf("%x: %x, %v, not %x", square, root, ok, want)
		}
		if a == (api.Num{}) {
			continue
		}
		// -1 is no square, so that what a square lacks of p is none either.
		if root, ok := field.Root(must(t)(field.Sub(field.ModP, api.Num{}, square))); root != (api.Num{}) || ok {
			t.Errorf("less %x: %x, %v", square, root, ok)
		}
	}
}

func TestRootIsTheEvenOne(t *testing.T) {
	// Of the roots of 1, 1 and p - 1, the latter is even.
	root, ok := field.Root(formOf(big.NewInt(1), primeP))
	if root != formOf(of(less(primeP, 1)), primeP) || !ok {
		t.Errorf("%x, %v", root, ok)
	}
	root, ok = field.Root(api.Num{})
	if root != (api.Num{}) || !ok {
		t.Errorf("of 0: %x, %v", root, ok)
	}
}

func TestRootOutOfRange(t *testing.T) {
	// More than p by a square, or by 0, is refused all the same.
	l := append(tooGreat(primeP), more(primeP, 4), num(new(big.Int).Add(of(primeP), of(formOf(big.NewInt(4), primeP)))))
	for _, a := range l {
		if root, ok := field.Root(a); root != (api.Num{}) || ok {
			t.Errorf("%x: %x, %v", a, root, ok)
		}
	}
}

// P5.4.

func TestOutTakesBack(t *testing.T) {
	singles(func(which int, _, a api.Num) {
		x, e := field.Out(which, must(t)(field.In(which, a)))
		agrees(t, x, e, a)
		x, e = field.In(which, must(t)(field.Out(which, a)))
		agrees(t, x, e, a)
	})
}

func TestLaws(t *testing.T) {
	s := source(6)
	ok := must(t)
	pairs(func(which int, m, a, b api.Num) {
		c := s.below(m)
		add := func(x, y api.Num) api.Num { return ok(field.Add(which, x, y)) }
		mul := func(x, y api.Num) api.Num { return ok(field.Mul(which, x, y)) }
		if add(a, b) != add(b, a) || mul(a, b) != mul(b, a) {
			t.Errorf("order: %x, %x", a, b)
		}
		if add(add(a, b), c) != add(a, add(b, c)) || mul(mul(a, b), c) != mul(a, mul(b, c)) {
			t.Errorf("grouping: %x, %x, %x", a, b, c)
		}
		if mul(a, add(b, c)) != add(mul(a, b), mul(a, c)) {
			t.Errorf("products over sums: %x, %x, %x", a, b, c)
		}
		if d := ok(field.Sub(which, a, b)); add(d, b) != a || ok(field.Sub(which, add(a, b), b)) != a {
			t.Errorf("differences: %x, %x", a, b)
		}
	})
}

func TestZeroAndOne(t *testing.T) {
	ok := must(t)
	singles(func(which int, m, a api.Num) {
		one := ok(field.In(which, api.Num{1}))
		if ok(field.Add(which, a, api.Num{})) != a || ok(field.Sub(which, a, api.Num{})) != a || ok(field.Mul(which, a, one)) != a {
			t.Errorf("%x", a)
		}
		if ok(field.Mul(which, a, api.Num{})) != (api.Num{}) || ok(field.Sub(which, a, a)) != (api.Num{}) {
			t.Errorf("%x: not 0", a)
		}
		if a == (api.Num{}) {
			return
		}
		if ok(field.Mul(which, a, ok(field.Inv(which, a)))) != one || ok(field.Inv(which, ok(field.Inv(which, a)))) != a {
			t.Errorf("inverse of %x", a)
		}
		if ok(field.Pow(which, a, less(m, 1))) != one || ok(field.Pow(which, a, m)) != a {
			t.Errorf("powers of %x", a)
		}
	})
}

// The chapter's examples.

func TestExamples(t *testing.T) {
	one := new(big.Int).Sub(power(224), power(192))
	one.Sub(one, power(96)).Add(one, big.NewInt(1))
	x, e := field.In(field.ModP, api.Num{1})
	agrees(t, x, e, num(one))
	x, e = field.Out(field.ModP, x)
	agrees(t, x, e, api.Num{1})

	x, e = field.In(field.ModP, primeP)
	agrees(t, x, e, api.Num{})
	x, e = field.In(field.ModN, primeN)
	agrees(t, x, e, api.Num{})

	x = must(t)(field.In(field.ModN, less(primeN, 1)))
	x, e = field.Out(field.ModN, must(t)(field.Mul(field.ModN, x, x)))
	agrees(t, x, e, api.Num{1})

	root, ok := field.Root(must(t)(field.In(field.ModP, api.Num{4})))
	if !ok {
		t.Error("no root of 4")
	}
	x, e = field.Out(field.ModP, root)
	agrees(t, x, e, api.Num{2})
	if root, ok := field.Root(must(t)(field.In(field.ModP, less(primeP, 1)))); root != (api.Num{}) || ok {
		t.Errorf("root of p - 1: %x, %v", root, ok)
	}
}

// P2: the calls ahead of one change nothing of it.
func TestSameTwice(t *testing.T) {
	s := source(7)
	for which, m := range primes() {
		for range 50 {
			a, b := s.below(m), s.below(m)
			ask := func() [8]api.Num {
				root, _ := field.Root(a)
				return [8]api.Num{must(t)(field.In(which, a)), must(t)(field.Out(which, a)), must(t)(field.Add(which, a, b)), must(t)(field.Sub(which, a, b)), must(t)(field.Mul(which, a, b)), must(t)(field.Pow(which, a, b)), must(t)(field.Inv(which, a)), root}
			}
			first := ask()
			field.Mul(3-which, b, a)
			field.Inv(which, most)
			field.Pow(0, b, a)
			if ask() != first {
				t.Fatalf("%x, %x", a, b)
			}
		}
	}
}
