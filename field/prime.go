package field

import (
	"barbican/api"
	"barbican/wide"
)

const halfBits = 32

// A prime is a modulus, and the number whose product with it is -1 modulo 2^32.
type prime struct {
	number api.Num
	factor uint32
}

// primeFor is the prime that which says, or why there is none, or why the numbers are no forms modulo it.
func primeFor(which int, forms ...api.Num) (prime, api.Errno) {
	m, ok := primeOf(which)
	if !ok {
		return prime{}, api.ErrFieldKind
	}
	for _, x := range forms {
		if wide.Cmp(x, m.number) >= 0 {
			return prime{}, api.ErrFieldRange
		}
	}
	return m, api.OK
}

// primeOf is the prime that which says.
func primeOf(which int) (prime, bool) {
	switch which {
	case ModP:
		return prime{api.Num{0xffffffffffffffff, 0x00000000ffffffff, 0x0000000000000000, 0xffffffff00000001}, 1}, true
	case ModN:
		return prime{api.Num{0xf3b9cac2fc632551, 0xbce6faada7179e84, 0xffffffffffffffff, 0xffffffff00000000}, 0xee00bc4f}, true
	}
	return prime{}, false
}

// in is the form of any number.
func (m prime) in(x api.Num) api.Num {
	_, rest, _ := wide.DivRem([8]uint64{0, 0, 0, 0, x[0], x[1], x[2], x[3]}, m.number)
	return rest
}

// out is the number of a form.
func (m prime) out(a api.Num) api.Num {
	return m.reduce([8]uint64{a[0], a[1], a[2], a[3]})
}

// times is the form of a product. That of two forms has 2^256 as a factor twice: once too often.
func (m prime) times(a, b api.Num) api.Num {
	return m.reduce(wide.Mul(a, b))
}

// minus is the form of a difference.
func (m prime) minus(a, b api.Num) api.Num {
	d, borrowed := wide.Sub(a, b)
	if borrowed == 1 {
		d, _ = wide.Add(d, m.number)
	}
	return d
}

// power is the form of a power.
func (m prime) power(a, e api.Num) api.Num {
	x := m.in(api.Num{1})
	for i := wide.Bits(e) - 1; i >= 0; i-- {
		x = m.times(x, x)
		if wide.Bit(e, i) == 1 {
			x = m.times(x, a)
		}
	}
	return x
}

// below is x, and 2^256 more if over is 1, modulo m: it is less than twice m.
func (m prime) below(x api.Num, over int) api.Num {
	less, borrowed := wide.Sub(x, m.number)
	if borrowed > over {
		return x
	}
	return less
}

// reduce is x divided by 2^256, modulo m: x is less than m times 2^256.
func (m prime) reduce(x [8]uint64) api.Num {
	var t [16]uint32
	var digits [8]uint32
	split(t[:], x[:])
	split(digits[:], m.number[:])
	var over uint64
	for i := range digits {
		// Added as many times m turns the lowest half that is left into 0, and changes nothing modulo m. Less than 2^256 times m is added in all.
		count := uint64(t[i] * m.factor)
		var carry uint64
		for j, d := range digits {
			// A product of two halves and two more halves always fit into a word.
			s := count*uint64(d) + uint64(t[i+j]) + carry
			t[i+j], carry = uint32(s), s>>halfBits
		}
		s := uint64(t[i+len(digits)]) + carry + over
		t[i+len(digits)], over = uint32(s), s>>halfBits
	}
	return m.below(join(t[len(digits):]), int(over))
}

// split takes words apart into their halves, the lower one first.
func split(halves []uint32, words []uint64) {
	for i, w := range words {
		halves[2*i], halves[2*i+1] = uint32(w), uint32(w>>halfBits)
	}
}

// join puts eight halves together.
func join(halves []uint32) api.Num {
	var x api.Num
	for i := range x {
		x[i] = uint64(halves[2*i+1])<<halfBits | uint64(halves[2*i])
	}
	return x
}
