package ring_test

import (
	"math"
	"math/big"

	"barbican/api"
	"barbican/ring"
)

// The chapter's words on whole numbers, the long way: what the package answers is held against these.

// modulus is Q, by itself.
const modulus = 8380417

// half is the greatest number of which no modulus is taken when it is centred.
const half = (modulus - 1) / 2

// rest is a whole number modulo another one.
func rest(x, m int64) int64 {
	return new(big.Int).Mod(big.NewInt(x), big.NewInt(m)).Int64()
}

// power is x to the power n modulo Q, factor by factor.
func power(x int64, n int) int64 {
	v := int64(1)
	for range n {
		v = v * x % modulus
	}
	return v
}

// centred is a number below Q, centred.
func centred(x int32) int64 {
	if x > half {
		return int64(x) - modulus
	}
	return int64(x)
}

// isPlain tells whether a number is below Q and not below 0.
func isPlain(x int32) bool { return 0 <= x && x < modulus }

// eachPlace is what is made of the coefficients at each place, modulo Q.
func eachPlace(a, b api.Poly, made func(x, y int64) int64) api.Poly {
	var p api.Poly
	for i := range p {
		p[i] = int32(rest(made(int64(a[i]), int64(b[i])), modulus))
	}
	return p
}

// product is the product modulo X^256 + 1, coefficient times coefficient.
func product(a, b api.Poly) api.Poly {
	var sums [511]int64
	for i, x := range a {
		for j, y := range b {
			sums[i+j] = (sums[i+j] + int64(x)*int64(y)) % modulus
		}
	}
	var p api.Poly
	for i := range p {
		sum := sums[i]
		if i+256 < len(sums) {
			sum -= sums[i+256]
		}
		p[i] = int32(rest(sum, modulus))
	}
	return p
}

// turned is a place with its bits in the opposite order.
func turned(place int) int {
	v := 0
	for i := range 8 {
		if place&(1<<i) != 0 {
			v += 128 >> i
		}
	}
	return v
}

// values are the 256 values of a polynomial, term by term.
func values(p api.Poly) api.Poly {
	var v api.Poly
	for j := range v {
		at := power(1753, 2*turned(j)+1)
		sum, x := int64(0), int64(1)
		for _, c := range p {
			sum = (sum + int64(c)*x) % modulus
			x = x * at % modulus
		}
		v[j] = int32(sum)
	}
	return v
}

// norm is the greatest absolute value of a centred coefficient.
func norm(p api.Poly) int32 {
	most := int64(0)
	for _, c := range p {
		if v := centred(c); v > most {
			most = v
		} else if -v > most {
			most = -v
		}
	}
	return int32(most)
}

// decomposed is what Decompose says of a number below Q.
func decomposed(r int32) (int32, int32) {
	low := r % 523776
	if low > 261888 {
		low -= 523776
	}
	if r-low == modulus-1 {
		return 0, low - 1
	}
	return (r - low) / 523776, low
}

// highOf is the high part of a number, modulo Q.
func highOf(x int64) int32 {
	high, _ := decomposed(int32(rest(x, modulus)))
	return high
}

// corrected is what UseHint says of a number below Q.
func corrected(h bool, r int32) int32 {
	high, low := decomposed(r)
	if h && low > 0 {
		return int32(rest(int64(high)+1, 16))
	}
	if h {
		return int32(rest(int64(high)-1, 16))
	}
	return high
}

// A source gives numbers that follow no short pattern, the same ones in each run.
type source uint64

func (s *source) next() uint64 {
	*s += 0x9e3779b97f4a7c15
	v := uint64(*s)
	v = (v ^ v>>30) * 0xbf58476d1ce4e5b9
	v = (v ^ v>>27) * 0x94d049bb133111eb
	return v ^ v>>31
}

// number is any below Q.
func (s *source) number() int32 { return int32(s.next() % modulus) }

// poly is any plain polynomial.
func (s *source) poly() api.Poly {
	var p api.Poly
	for i := range p {
		p[i] = s.number()
	}
	return p
}

// edgy is one whose coefficients stand at both ends and about the middle.
func (s *source) edgy() api.Poly {
	ends := [8]int32{0, 1, 2, half - 1, half, half + 1, modulus - 2, modulus - 1}
	var p api.Poly
	for i := range p {
		p[i] = ends[s.next()%8]
	}
	return p
}

// all is a polynomial with the same coefficient at each place.
func all(c int32) api.Poly {
	var p api.Poly
	for i := range p {
		p[i] = c
	}
	return p
}

// term is c X^n.
func term(c int32, n int) api.Poly {
	var p api.Poly
	p[n] = c
	return p
}

// polys are plain polynomials of all kinds.
func polys() []api.Poly {
	l := []api.Poly{{}, {1}, {0, 1}, {modulus - 1}, {half}, {half + 1}, all(1), all(half), all(half + 1), all(modulus - 1)}
	for _, n := range []int{1, 2, 127, 128, 129, 254, 255} {
		l = append(l, term(1, n), term(modulus-1, n))
	}
	s := source(1)
	for range 6 {
		l = append(l, s.poly(), s.edgy())
	}
	return l
}

// pairs goes over two of them at a time.
func pairs(look func(a, b api.Poly)) {
	for _, a := range polys() {
		for _, b := range polys() {
			look(a, b)
		}
	}
}

// noNumbers are numbers that are not 0 to Q - 1.
func noNumbers() []int32 {
	return []int32{
		-1, -2, -half, -half - 1, -modulus + 1, -modulus, -modulus - 1, modulus, modulus + 1, modulus + half, 2*modulus - 1, 2 * modulus,
		1 << 23, 1 << 24, 1 << 30, -1 << 23, 256*modulus - 1, 256 * modulus, math.MinInt32, math.MinInt32 + 1, math.MaxInt32, math.MaxInt32 - 1,
	}
}

// edges are the numbers below Q about all places where a part or its rounding changes.
func edges() []int32 {
	var l []int32
	add := func(about int64) {
		for d := int64(-3); d <= 3; d++ {
			if v := about + d; v >= 0 && v < ring.Q {
				l = append(l, int32(v))
			}
		}
	}
	for i := range int64(17) {
		add(i * 523776)
		add(i*523776 + 261888)
	}
	add(half)
	add(modulus)
	s := source(2)
	for range 20 {
		l = append(l, s.number())
	}
	return l
}
