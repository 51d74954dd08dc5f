package wide

import "barbican/api"

const (
	halfBits = wordBits / 2
	half     = 1<<halfBits - 1 // the greatest half of a word
)

// Mul is a product.
func Mul(a, b api.Num) [8]uint64 {
	var p [8]uint64
	for i, w := range a {
		var carry uint64
		for j, v := range b {
			p[i+j], carry = mulAdd(w, v, p[i+j], carry)
		}
		p[i+len(b)] = carry
	}
	return p
}

// times is x times a word: the product without 2^256, and what goes beyond.
func times(x api.Num, w uint64) (api.Num, uint64) {
	var carry uint64
	for i, v := range x {
		x[i], carry = mulAdd(v, w, 0, carry)
	}
	return x, carry
}

// mulAdd is a b + c + d as its lower and its upper word: two words always hold it, for (2^64 - 1)^2 + 2 (2^64 - 1) is 2^128 - 1.
func mulAdd(a, b, c, d uint64) (lower, upper uint64) {
	// For the same reason no sum of a product of two halves and of two more halves goes beyond a word.
	a0, a1 := a&half, a>>halfBits
	b0, b1 := b&half, b>>halfBits
	first := a0*b0 + c&half + d&half
	second := a1*b0 + c>>halfBits + first>>halfBits
	third := a0*b1 + d>>halfBits + second&half
	lower = third<<halfBits | first&half
	upper = a1*b1 + second>>halfBits + third>>halfBits
	return lower, upper
}

// DivRem is a quotient and the rest.
func DivRem(x [8]uint64, m api.Num) ([8]uint64, api.Num, api.Errno) {
	if m == (api.Num{}) {
		return [8]uint64{}, api.Num{}, api.ErrWideZero
	}
	q, rest := divide(x, m)
	return q, rest, api.OK
}

// MulMod is the rest of a product.
func MulMod(a, b, m api.Num) (api.Num, api.Errno) {
	_, rest, e := DivRem(Mul(a, b), m)
	return rest, e
}

// Reduce is the rest of a number of any length.
func Reduce(b []byte, m api.Num) (api.Num, api.Errno) {
	if m == (api.Num{}) {
		return api.Num{}, api.ErrWideZero
	}
	var rest api.Num
	for len(b) > 0 {
		// The first piece alone may be shorter: the rest ahead of it is 0, however far that is shifted.
		n := (len(b)-1)%numBytes + 1
		_, rest = divide(join(numberOf(b[:n]), rest), m)
		b = b[n:]
	}
	return rest, api.OK
}

// join is the number whose halves two numbers are.
func join(lower, upper api.Num) [8]uint64 {
	var x [8]uint64
	copy(x[:], lower[:])
	copy(x[len(lower):], upper[:])
	return x
}

// divide is the quotient and the rest of x by m, which is not 0.
func divide(x [8]uint64, m api.Num) ([8]uint64, api.Num) {
	// With m's highest bit at the top a digit is guessed well. Both are shifted alike: the quotient is the same, the rest is shifted too.
	n := numBits - Bits(m)
	m = Shl(m, n)
	x, rest := shiftUp(x, n)
	var q [8]uint64
	for i := len(x) - 1; i >= 0; i-- {
		var upper, lower uint64
		upper, rest = digit(rest, x[i]>>halfBits, m)
		lower, rest = digit(rest, x[i]&half, m)
		q[i] = upper<<halfBits | lower
	}
	return q, Shr(rest, n)
}

// shiftUp is x times 2^n, n being 0 to 255: without what is 2^512 and more, and that.
func shiftUp(x [8]uint64, n int) ([8]uint64, api.Num) {
	lower := api.Num{x[0], x[1], x[2], x[3]}
	upper := api.Num{x[4], x[5], x[6], x[7]}
	// The two have no bit in common.
	middle, _ := Add(Shl(upper, n), Shr(lower, numBits-n))
	return join(Shl(lower, n), middle), Shr(upper, numBits-n)
}

// digit is the quotient, a half of a word, and the rest of rest times 2^32 and next, by m. The rest handed in is less than m, and m has 256 bits.
func digit(rest api.Num, next uint64, m api.Num) (uint64, api.Num) {
	// Guessed by the upper halves alone the quotient is never too small, and too great by two at the most, for m's upper half is at least 2^31.
	q := min(rest[3]/(m[3]>>halfBits), half)
	taken, takenOver := times(m, q)
	over := int64(rest[3]>>halfBits) - int64(takenOver)
	rest = Shl(rest, halfBits)
	rest[0] |= next
	rest, borrowed := Sub(rest, taken)
	over -= int64(borrowed)
	for over < 0 {
		var carried int
		rest, carried = Add(rest, m)
		over += int64(carried)
		q--
	}
	return q, rest
}
