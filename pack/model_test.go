package pack_test

import (
	"crypto/sha3"
	"math"
	"math/big"
	"slices"

	"barbican/api"
)

// The chapter's words, the long way: what the package answers is held against these.

// modulus is Q, by itself.
const modulus = 8380417

// half is the greatest number of which no modulus is taken when it is centred.
const half = (modulus - 1) / 2

// rest is a number modulo Q.
func rest(x int64) int32 {
	return int32(new(big.Int).Mod(big.NewInt(x), big.NewInt(modulus)).Int64())
}

// centred is a number below Q, centred.
func centred(x int32) int64 {
	if x > half {
		return int64(x) - modulus
	}
	return int64(x)
}

// laid are 256 numbers in so many bits each: all of them as one number, its lowest byte first.
func laid(numbers [256]int64, bits int) []byte {
	whole := new(big.Int)
	for i, n := range numbers {
		whole.Or(whole, new(big.Int).Lsh(big.NewInt(n), uint(i*bits)))
	}
	b := whole.FillBytes(make([]byte, 32*bits))
	slices.Reverse(b)
	return b
}

// numbersOf are the numbers laid in some bytes, bit by bit.
func numbersOf(b []byte, bits int) [256]int64 {
	var l [256]int64
	for i := range 256 * bits {
		if b[i/8]&(1<<(i%8)) != 0 {
			l[i/bits] |= 1 << (i % bits)
		}
	}
	return l
}

// coefficients are a polynomial's as whole numbers.
func coefficients(p api.Poly) [256]int64 {
	var l [256]int64
	for i, c := range p {
		l[i] = int64(c)
	}
	return l
}

// downFrom are the numbers that Down lays.
func downFrom(p api.Poly, top int32) [256]int64 {
	var l [256]int64
	for i, c := range p {
		l[i] = int64(top) - centred(c)
	}
	return l
}

// hintBytes are the bytes of some hints.
func hintBytes(h [6]api.Poly) []byte {
	var places, ends []byte
	for _, p := range h {
		for i := range p {
			if p[i] == 1 {
				places = append(places, byte(i))
			}
		}
		ends = append(ends, byte(len(places)))
	}
	return slices.Concat(places, make([]byte, 55-len(places)), ends)
}

// uniform is what Uniform says of a seed.
func uniform(seed []byte) api.Poly {
	b := sha3.SumSHAKE128(seed, 6048)
	var p api.Poly
	many := 0
	for i := 0; many < 256; i += 3 {
		if n := int32(b[i]) + 256*int32(b[i+1]) + 65536*(int32(b[i+2])%128); n < modulus {
			p[many] = n
			many++
		}
	}
	return p
}

// small is what Small says of one.
func small(seed []byte) api.Poly {
	var numbers []int
	for _, b := range sha3.SumSHAKE256(seed, 2000) {
		numbers = append(numbers, int(b)%16, int(b)/16)
	}
	numbers = slices.DeleteFunc(numbers, func(n int) bool { return n >= 9 })
	var p api.Poly
	for i := range p {
		p[i] = rest(4 - int64(numbers[i]))
	}
	return p
}

// ball is what Ball says of one.
func ball(seed []byte) api.Poly {
	b := sha3.SumSHAKE256(seed, 1008)
	at := 8
	var p api.Poly
	for i := 207; i <= 255; i++ {
		for int(b[at]) > i {
			at++
		}
		j := b[at]
		at++
		p[i] = p[j]
		number := i - 207
		if b[number/8]>>(number%8)%2 == 1 {
			p[j] = modulus - 1
		} else {
			p[j] = 1
		}
	}
	return p
}

// A source gives numbers that follow no short pattern, the same ones in each run.
type source uint64

func (s *source) next() uint64 {
	*s += 0x9e3779b97f4a7c15
	v := uint64(*s)
	v = (v ^ v>>30) * 0xbf58476d1ce4e5b9
	v = (v ^ v>>27) * 0x94d049bb133111eb
	return v ^ v>>31
}

// bytes are any n.
func (s *source) bytes(n int) []byte {
	b := make([]byte, n)
	for i := range b {
		b[i] = byte(s.next())
	}
	return b
}

// from is any number of least to most.
func (s *source) from(least, most int64) int64 {
	return least + int64(s.next()%uint64(most-least+1))
}

// between is a polynomial whose coefficients are any of least to most, modulo Q; about one of eight stands at an end.
func (s *source) between(least, most int64) api.Poly {
	var p api.Poly
	for i := range p {
		switch s.next() % 16 {
		case 0:
			p[i] = rest(least)
		case 1:
			p[i] = rest(most)
		default:
			p[i] = rest(s.from(least, most))
		}
	}
	return p
}

// all is a polynomial with the same coefficient at each place.
func all(c int32) api.Poly {
	var p api.Poly
	for i := range p {
		p[i] = c
	}
	return p
}

// with is a polynomial with another coefficient at one place.
func with(p api.Poly, i int, c int32) api.Poly {
	p[i] = c
	return p
}

// greatest is the greatest coefficient that Up lays in so many bits.
func greatest(bits int) int32 {
	return min(int32(1)<<bits-1, modulus-1)
}

// noNumbers are numbers that are not 0 to Q - 1.
func noNumbers() []int32 {
	return []int32{
		-1, -2, -half, -half - 1, -modulus + 1, -modulus, -modulus - 1, modulus, modulus + 1, 2*modulus - 1, 2 * modulus,
		1<<23 - 1, 1 << 23, 1 << 24, 1 << 30, -1 << 23, 256 * modulus, math.MinInt32, math.MinInt32 + 1, math.MaxInt32,
	}
}

// noBits are numbers of bits that are none from 1 to most.
func noBits(most int) []int {
	return []int{0, -1, -8, most + 1, most + 2, 31, 32, 33, 64, 1 << 20, math.MaxInt, math.MinInt, math.MaxInt / 32, 1<<59 + 1}
}

// noTops are tops that are not 0 to 2^22.
func noTops() []int32 {
	return []int32{-1, -2, 1<<22 + 1, 1<<22 + 2, 1 << 23, math.MaxInt32, math.MinInt32}
}

// tops are some that are.
func tops() []int32 {
	return []int32{0, 1, 2, 3, 4, 100, 4095, 4096, 1 << 19, half - 1, half, half + 1, 1<<22 - 1, 1 << 22}
}

// wrongSizes are list sizes that are not n.
func wrongSizes(n int) []int {
	l := []int{0, 1, n - 1, n + 1, n + 32, 2 * n}
	return slices.DeleteFunc(l, func(x int) bool { return x == n })
}
