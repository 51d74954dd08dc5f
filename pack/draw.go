package pack

import (
	"barbican/api"
	"barbican/keccak"
	"barbican/ring"
)

// How long seeds are, and how many bytes are drawn at most.
const (
	matrixSeed = 32

	uniformSeed  = 34
	uniformBytes = 6048

	smallSeed  = 66
	smallBytes = 2000

	ballSeed  = 48
	ballBytes = 1000
	signBytes = 8
)

const (
	// Numbers below this one are taken from smallest.
	smallNumbers = 9
	smallest     = 4

	// One for each bit of the signs, but those that are left over.
	ballOnes = 49

	// How many bytes are asked for at a time: of most seeds far fewer than the most are drawn.
	chunk = 168
)

// bytesOf gives the next of a seed's bytes at each call; false behind the most that may be drawn.
func bytesOf(kind int, seed []byte, most int) func() (byte, bool) {
	sponge, _ := keccak.New(kind)
	sponge.Write(seed)
	var ready []byte
	return func() (byte, bool) {
		if most == 0 {
			return 0, false
		}
		most--
		if len(ready) == 0 {
			ready, _ = sponge.Read(chunk)
		}
		b := ready[0]
		ready = ready[1:]
		return b, true
	}
}

// filled is the polynomial whose coefficients are drawn one by one, modulo Q.
func filled(draw func() (int32, bool)) (api.Poly, api.Errno) {
	var p api.Poly
	for i := range p {
		c, ok := draw()
		if !ok {
			return api.Poly{}, api.ErrPackLong
		}
		p[i] = c
	}
	return ring.Reduce(p), api.OK
}

// belowQ draws numbers below Q, out of three bytes each.
func belowQ(next func() (byte, bool)) func() (int32, bool) {
	return func() (int32, bool) {
		for {
			a, _ := next()
			b, _ := next()
			c, ok := next()
			if !ok {
				return 0, false
			}
			number := int32(a) | int32(b)<<8 | int32(c&0x7f)<<16
			if number < ring.Q {
				return number, true
			}
		}
	}
}

// nearNought draws numbers that are at most 4 away from 0, out of half a byte each.
func nearNought(next func() (byte, bool)) func() (int32, bool) {
	draw := halves(next)
	return func() (int32, bool) {
		for {
			number, ok := draw()
			if !ok {
				return 0, false
			}
			if number < smallNumbers {
				return smallest - int32(number), true
			}
		}
	}
}

// halves gives the lower four bits of a byte at a call, and the upper ones at the call behind it.
func halves(next func() (byte, bool)) func() (byte, bool) {
	var whole byte
	upper := true
	return func() (byte, bool) {
		upper = !upper
		if upper {
			return whole >> 4, true
		}
		var ok bool
		whole, ok = next()
		return whole & 0xf, ok
	}
}

// thrown is a polynomial with ballOnes coefficients 1 or -1: each of the last places gets what stood at a place that is drawn, which gets the new one.
func thrown(next func() (byte, bool)) (api.Poly, api.Errno) {
	var p api.Poly
	signs := signsOf(next)
	for i := places - ballOnes; i < places; i++ {
		j, ok := upTo(i, next)
		if !ok {
			return api.Poly{}, api.ErrPackLong
		}
		p[i] = p[j]
		p[j] = 1
		if signs&1 == 1 {
			p[j] = ring.Q - 1
		}
		signs >>= 1
	}
	return p, api.OK
}

// signsOf are the bits of the next eight bytes.
func signsOf(next func() (byte, bool)) uint64 {
	var signs uint64
	for i := range signBytes {
		b, _ := next()
		signs |= uint64(b) << (8 * i)
	}
	return signs
}

// upTo draws a place that is i at most, out of a byte each time.
func upTo(i int, next func() (byte, bool)) (int, bool) {
	for {
		b, ok := next()
		if !ok {
			return 0, false
		}
		if int(b) <= i {
			return int(b), true
		}
	}
}
