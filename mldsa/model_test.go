package mldsa_test

import (
	"crypto/sha3"
	"slices"

	"barbican/api"
)

// The chapters' words and FIPS 204's own, the long way: what the package answers is held against these. None of the project's other packages is asked.

// modulus is Q, by itself.
const modulus = 8380417

// rest is a number modulo Q.
func rest(x int64) int64 { return (x%modulus + modulus) % modulus }

// centred is a number modulo Q, centred.
func centred(x int64) int64 {
	x = rest(x)
	if x > (modulus-1)/2 {
		return x - modulus
	}
	return x
}

// plain are whole numbers as a plain polynomial.
func plain(l [256]int64) api.Poly {
	var p api.Poly
	for i, n := range l {
		p[i] = int32(rest(n))
	}
	return p
}

// coefficients are a polynomial's, centred.
func coefficients(p api.Poly) [256]int64 {
	var l [256]int64
	for i, c := range p {
		l[i] = centred(int64(c))
	}
	return l
}

// rootPowers are the powers of 1753; the one behind the last is 1 again.
func rootPowers() [512]int64 {
	var l [512]int64
	l[0] = 1
	for i := range 511 {
		l[i+1] = l[i] * 1753 % modulus
	}
	return l
}

// exponent is that of 1753 at a place.
func exponent(j int) int {
	b := 0
	for k := range 8 {
		b |= j >> k & 1 << (7 - k)
	}
	return 2*b + 1
}

// valuesOf are a polynomial's, term by term.
func valuesOf(l [256]int64) [256]int64 {
	powers := rootPowers()
	var v [256]int64
	for j := range v {
		sum := int64(0)
		for i, c := range l {
			sum += rest(c) * powers[exponent(j)*i%512] % modulus
		}
		v[j] = rest(sum)
	}
	return v
}

// ofValues is the polynomial that has these values: of powers of a place's root the sum over all places is 0, but for the power 0.
func ofValues(v [256]int64) [256]int64 {
	powers := rootPowers()
	var l [256]int64
	for i := range l {
		sum := int64(0)
		for j, x := range v {
			sum += x * powers[511*exponent(j)*i%512] % modulus
		}
		// 256 times 32736 times this is Q - 1 times it, and so its opposite.
		l[i] = rest(sum * -32736 % modulus)
	}
	return l
}

// product is one coefficient by coefficient, X to the power 256 being -1.
func product(a, b [256]int64) [256]int64 {
	var l [256]int64
	for i, x := range a {
		if x == 0 {
			continue
		}
		for j, y := range b {
			if i+j < 256 {
				l[i+j] = (l[i+j] + x*y) % modulus
			} else {
				l[i+j-256] = (l[i+j-256] - x*y) % modulus
			}
		}
	}
	return l
}

// together are two lists, number by number.
func together(a, b [256]int64, made func(x, y int64) int64) [256]int64 {
	for i, y := range b {
		a[i] = made(a[i], y)
	}
	return a
}

func plus(a, b [256]int64) [256]int64 {
	return together(a, b, func(x, y int64) int64 { return rest(x + y) })
}

func minus(a, b [256]int64) [256]int64 {
	return together(a, b, func(x, y int64) int64 { return rest(x - y) })
}

func times(a, b [256]int64) [256]int64 {
	return together(a, b, func(x, y int64) int64 { return x * y % modulus })
}

// each is a list with something made of each number.
func each(l [256]int64, made func(x int64) int64) [256]int64 {
	for i, x := range l {
		l[i] = made(x)
	}
	return l
}

// normOf is the greatest absolute value of some polynomials' centred coefficients.
func normOf(lists ...[256]int64) int64 {
	most := int64(0)
	for _, l := range lists {
		for _, x := range l {
			most = max(most, centred(x), -centred(x))
		}
	}
	return most
}

// parted are the high and the low part of a number, by 523776.
func parted(r int64) (int64, int64) {
	r = rest(r)
	low := r % 523776
	if low > 261888 {
		low -= 523776
	}
	if r-low == modulus-1 {
		return 0, low - 1
	}
	return (r - low) / 523776, low
}

func highOf(r int64) int64 { high, _ := parted(r); return high }
func lowOf(r int64) int64  { _, low := parted(r); return low }

// useHint is the high part of a number, with a hint.
func useHint(h int32, r int64) int64 {
	high, low := parted(r)
	switch {
	case h == 0:
		return high
	case low > 0:
		return (high + 1) % 16
	}
	return (high + 15) % 16
}

// shake is so many bytes of SHAKE256 of some pieces.
func shake(n int, pieces ...[]byte) []byte {
	return sha3.SumSHAKE256(slices.Concat(pieces...), n)
}

// laid are 256 numbers in so many bits each, bit by bit.
func laid(l [256]int64, bits int) []byte {
	b := make([]byte, 32*bits)
	for i := range 256 * bits {
		b[i/8] |= byte(l[i/bits]>>(i%bits)&1) << (i % 8)
	}
	return b
}

// numbersOf are the numbers laid in some bytes.
func numbersOf(b []byte, bits int) [256]int64 {
	var l [256]int64
	for i := range 256 * bits {
		l[i/bits] |= int64(b[i/8]>>(i%8)&1) << (i % bits)
	}
	return l
}

// uniform is a polynomial drawn out of a seed.
func uniform(seed []byte) [256]int64 {
	b := sha3.SumSHAKE128(seed, 6048)
	var l [256]int64
	many := 0
	for i := 0; many < 256; i += 3 {
		if n := int64(b[i]) + 256*int64(b[i+1]) + 65536*(int64(b[i+2])%128); n < modulus {
			l[many] = n
			many++
		}
	}
	return l
}

// matrix is that of a seed, as values.
func matrix(rho []byte) [6][5][256]int64 {
	var m [6][5][256]int64
	for r := range m {
		for s := range m[r] {
			m[r][s] = uniform(slices.Concat(rho, []byte{byte(s), byte(r)}))
		}
	}
	return m
}

// small is a polynomial with coefficients of -4 to 4, drawn out of a seed.
func small(seed []byte) [256]int64 {
	var l [256]int64
	many := 0
	for _, b := range sha3.SumSHAKE256(seed, 2000) {
		for _, n := range []int64{int64(b % 16), int64(b / 16)} {
			if n < 9 && many < 256 {
				l[many] = 4 - n
				many++
			}
		}
	}
	return l
}

// ball is a polynomial with 49 coefficients that are 1 or -1, drawn out of a seed.
func ball(seed []byte) [256]int64 {
	b := sha3.SumSHAKE256(seed, 1008)
	at := 8
	var l [256]int64
	for i := 207; i <= 255; i++ {
		for int(b[at]) > i {
			at++
		}
		j := b[at]
		at++
		l[i] = l[j]
		l[j] = 1 - 2*int64(b[(i-207)/8]>>((i-207)%8)&1)
	}
	return l
}

// hintBytes are the bytes of some hints.
func hintBytes(h [6]api.Poly) []byte {
	var places, ends []byte
	for _, p := range h {
		for i := range p {
			if p[i] == 1 {
				places = append(places, byte(i))
			}
		}
		ends = append(ends, byte(len(places)))
	}
	return slices.Concat(places, make([]byte, 55-len(places)), ends)
}

// hintsOf are the hints of such bytes.
func hintsOf(b []byte) [6]api.Poly {
	var h [6]api.Poly
	from := 0
	for r := range h {
		for _, i := range b[from:b[55+r]] {
			h[r][i] = 1
		}
		from = int(b[55+r])
	}
	return h
}

// keyOf are the bytes of a key.
func keyOf(rho []byte, t [6][256]int64) []byte {
	key := slices.Clone(rho)
	for _, l := range t {
		key = append(key, laid(l, 10)...)
	}
	return key
}

// sigOf are those of a signature.
func sigOf(challenge []byte, z [5][256]int64, h [6]api.Poly) []byte {
	sig := slices.Clone(challenge)
	for _, l := range z {
		sig = append(sig, laid(each(l, func(x int64) int64 { return 1<<19 - centred(x) }), 20)...)
	}
	return append(sig, hintBytes(h)...)
}

// muOf is what a message stands for, with a context, under a key.
func muOf(key, msg, context []byte) []byte {
	return shake(64, shake(64, key), []byte{0, byte(len(context))}, context, msg)
}

// commitment is what a signature comes back to, in high parts.
func commitment(rho []byte, t [6][256]int64, c [256]int64, z [5][256]int64, h [6]api.Poly) [6][256]int64 {
	a := matrix(rho)
	for s := range z {
		z[s] = valuesOf(z[s])
	}
	var w [6][256]int64
	for r := range w {
		var sum [256]int64
		for s := range z {
			sum = plus(sum, times(a[r][s], z[s]))
		}
		key := each(t[r], func(x int64) int64 { return 8192 * x })
		w[r] = minus(ofValues(sum), product(c, key))
		for i, x := range w[r] {
			w[r][i] = useHint(h[r][i], x)
		}
	}
	return w
}

// challengeOf is the challenge for some high parts.
func challengeOf(mu []byte, w [6][256]int64) []byte {
	pieces := [][]byte{mu}
	for _, l := range w {
		pieces = append(pieces, laid(l, 4))
	}
	return shake(48, pieces...)
}

// A signer is a secret key of FIPS 204, with its key. Of the secret parts it has the values, too.
type signer struct {
	key, rho, k    []byte
	s1             [5][256]int64
	s2, t0         [6][256]int64
	values1        [5][256]int64
	values2, valT0 [6][256]int64
	a              [6][5][256]int64
}

// newSigner is Algorithm 6.
func newSigner(seed []byte) *signer {
	b := shake(128, seed, []byte{6, 5})
	s := &signer{rho: b[:32], k: b[96:], a: matrix(b[:32])}
	drawn := func(n int) [256]int64 { return small(slices.Concat(b[32:96], []byte{byte(n), 0})) }
	for i := range s.s1 {
		s.s1[i] = drawn(i)
		s.values1[i] = valuesOf(s.s1[i])
	}
	var t1 [6][256]int64
	for r := range s.s2 {
		s.s2[r] = drawn(5 + r)
		t := plus(ofValues(s.rowTimes(r, s.values1)), s.s2[r])
		for i, x := range t {
			// The rest by 8192 that is above -4096 and at most 4096.
			t1[r][i] = (x + 4095) / 8192
			s.t0[r][i] = x - 8192*t1[r][i]
		}
		s.values2[r], s.valT0[r] = valuesOf(s.s2[r]), valuesOf(s.t0[r])
	}
	s.key = keyOf(s.rho, t1)
	return s
}

// rowTimes are the values of a row's sum of products.
func (s *signer) rowTimes(r int, v [5][256]int64) [256]int64 {
	var sum [256]int64
	for i := range v {
		sum = plus(sum, times(s.a[r][i], v[i]))
	}
	return sum
}

// A draft is what a signer finds in one round, whether it may be told or not.
type draft struct {
	challenge []byte
	z         [5][256]int64
	h         [6]api.Poly

	zNorm, lowNorm, t0Norm int64
	hints                  int
}

// good tells whether a signer may tell it.
func (d draft) good() bool {
	return d.zNorm < 1<<19-196 && d.lowNorm < 261888-196 && d.t0Norm < 261888 && d.hints <= 55
}

// sig is its bytes, of which the coefficients of z may be any that fit.
func (d draft) sig() []byte { return sigOf(d.challenge, d.z, d.h) }

// draftOf is a round of Algorithm 7.
func (s *signer) draftOf(mu, seed []byte, round int) draft {
	var y, values [5][256]int64
	for i := range y {
		n := 5*round + i
		b := shake(640, seed, []byte{byte(n), byte(n >> 8)})
		y[i] = each(numbersOf(b, 20), func(x int64) int64 { return 1<<19 - x })
		values[i] = valuesOf(y[i])
	}
	var w, high [6][256]int64
	for r := range w {
		w[r] = ofValues(s.rowTimes(r, values))
		high[r] = each(w[r], highOf)
	}
	d := draft{challenge: challengeOf(mu, high)}
	c := valuesOf(ball(d.challenge))
	for i := range y {
		d.z[i] = plus(y[i], ofValues(times(c, s.values1[i])))
	}
	d.zNorm = normOf(d.z[:]...)
	for r := range w {
		near := minus(w[r], ofValues(times(c, s.values2[r])))
		d.lowNorm = max(d.lowNorm, normOf(each(near, lowOf)))
		cut := ofValues(times(c, s.valT0[r]))
		d.t0Norm = max(d.t0Norm, normOf(cut))
		for i, x := range plus(near, cut) {
			if highOf(x) != highOf(near[i]) {
				d.h[r][i] = 1
				d.hints++
			}
		}
	}
	return d
}

// sign is Algorithm 7, with 32 bytes that make the rounds others.
func (s *signer) sign(msg, context, random []byte) []byte {
	mu := muOf(s.key, msg, context)
	seed := shake(64, s.k, random, mu)
	for round := 0; ; round++ {
		if d := s.draftOf(mu, seed, round); d.good() {
			return d.sig()
		}
	}
}

// A source gives numbers that follow no short pattern, the same ones in each run.
type source uint64

func (s *source) next() uint64 {
	*s += 0x9e3779b97f4a7c15
	v := uint64(*s)
	v = (v ^ v>>30) * 0xbf58476d1ce4e5b9
	v = (v ^ v>>27) * 0x94d049bb133111eb
	return v ^ v>>31
}

// bytes are any n.
func (s *source) bytes(n int) []byte {
	b := make([]byte, n)
	for i := range b {
		b[i] = byte(s.next())
	}
	return b
}

// between are any numbers of least to most; about one of eight stands at an end.
func (s *source) between(least, most int64) [256]int64 {
	var l [256]int64
	for i := range l {
		switch s.next() % 16 {
		case 0:
			l[i] = least
		case 1:
			l[i] = most
		default:
			l[i] = least + int64(s.next()%uint64(most-least+1))
		}
	}
	return l
}

// hints are any n.
func (s *source) hints(n int) [6]api.Poly {
	var h [6]api.Poly
	for n > 0 {
		if r, i := s.next()%6, s.next()%256; h[r][i] == 0 {
			h[r][i] = 1
			n--
		}
	}
	return h
}

// all are 256 times one number.
func all(x int64) [256]int64 {
	return each([256]int64{}, func(int64) int64 { return x })
}
