package pack

import "barbican/api"

// sizeIn is how many bytes a polynomial has in so many bits a coefficient: whole ones, since eight coefficients make as many bytes as one has bits.
func sizeIn(bits int) int {
	return places * bits / 8
}

// inBits tells whether all coefficients are numbers of so many bits.
func inBits(p api.Poly, bits int) bool {
	for _, c := range p {
		// One below 0 has its uppermost bit, whatever is shifted away.
		if uint32(c)>>bits != 0 {
			return false
		}
	}
	return true
}

// laid are the coefficients one behind the other, in so many bits each, which they must not exceed.
func laid(p api.Poly, bits int) []byte {
	b := make([]byte, 0, sizeIn(bits))
	var waiting uint32
	var many int
	for _, c := range p {
		waiting |= uint32(c) << many
		for many += bits; many >= 8; many -= 8 {
			b = append(b, byte(waiting))
			waiting >>= 8
		}
	}
	return b
}

// taken are the numbers that laid would make these bytes of.
func taken(b []byte, bits int) api.Poly {
	var p api.Poly
	var waiting uint32
	var many, next int
	for i := range p {
		for ; many < bits; many += 8 {
			waiting |= uint32(b[next]) << many
			next++
		}
		p[i] = int32(waiting & (1<<bits - 1))
		waiting >>= bits
		many -= bits
	}
	return p
}
