package ring

import "barbican/api"

const (
	places    = 256
	placeBits = 8

	// The power 256 of root is -1, and that of each odd power of root is, too: the values are taken at these.
	root = 1753

	// A product with these is a quotient by root, and by the number of places, of which Q - 1 is a multiple.
	overRoot   = 731434
	overPlaces = Q - (Q-1)/places
)

// valuesOf are the values of a plain polynomial. It is halved eight times, since this takes far fewer products than each value by itself: from what it is modulo X^2n - r^2 to what it is modulo X^n - r and modulo X^n + r. What it is modulo X less a number is its value there.
func valuesOf(p api.Poly) api.Poly {
	roots := powersOf(root)
	for n := places / 2; n > 0; n /= 2 {
		p = pairByPair(p, n, roots, func(low, high, r int32) (int32, int32) {
			high = times(high, r)
			return plus(low, high), minus(low, high)
		})
	}
	return p
}

// behind is the plain polynomial whose values p is. Sums and differences of both halves are twice what they were made of; this is divided out once, at the end.
func behind(p api.Poly) api.Poly {
	overRoots := powersOf(overRoot)
	for n := 1; n < places; n *= 2 {
		p = pairByPair(p, n, overRoots, func(low, high, r int32) (int32, int32) {
			return plus(low, high), times(minus(low, high), r)
		})
	}
	for i, c := range p {
		p[i] = times(c, overPlaces)
	}
	return p
}

// pairByPair is p with each two coefficients mixed that stand n places apart within a part of 2n. Parts are counted from 1 on, the whole first, then its halves: a part's root stands at its number.
func pairByPair(p api.Poly, n int, roots [places]int32, mixed func(low, high, r int32) (int32, int32)) api.Poly {
	for i := range p {
		if i&n == 0 {
			p[i], p[i+n] = mixed(p[i], p[i+n], roots[(places+i)/(2*n)])
		}
	}
	return p
}

// powersOf are the powers of x: at each place the one whose exponent is the place with its bits turned. Twice a place has half its exponent: where a part's root is r, there stands a square root of r, for its half modulo X^n - r, and at the next place one of -r, for the other half.
func powersOf(x int32) [places]int32 {
	var powers [places]int32
	power := int32(1)
	for exponent := range powers {
		powers[turned(exponent)] = power
		power = times(power, x)
	}
	return powers
}

// turned is a place with its bits in the opposite order.
func turned(place int) int {
	bits := 0
	for range placeBits {
		bits = bits<<1 | place&1
		place >>= 1
	}
	return bits
}
