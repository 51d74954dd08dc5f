package keccak

// constants are the rounds' ones: what the chapter's doubled byte comes to.
var constants = [24]uint64{
	0x0000000000000001, 0x0000000000008082, 0x800000000000808a, 0x8000000080008000,
	0x000000000000808b, 0x0000000080000001, 0x8000000080008081, 0x8000000000008009,
	0x000000000000008a, 0x0000000000000088, 0x0000000080008009, 0x000000008000000a,
	0x000000008000808b, 0x800000000000008b, 0x8000000000008089, 0x8000000000008003,
	0x8000000000008002, 0x8000000000000080, 0x000000000000800a, 0x800000008000000a,
	0x8000000080008081, 0x8000000000008080, 0x0000000080000001, 0x8000000080008008,
}

// Permute is Keccak-f[1600].
func Permute(s [25]uint64) [25]uint64 {
	for r := range 24 {
		s = mixColumns(s)
		s = turnAndMove(s)
		s = mixRows(s)
		s[0] ^= constants[r]
	}
	return s
}

// mixColumns is the first step: each word takes the sums of two columns in.
func mixColumns(s [25]uint64) [25]uint64 {
	var sums [5]uint64
	for x := range 5 {
		sums[x] = s[x] ^ s[x+5] ^ s[x+10] ^ s[x+15] ^ s[x+20]
	}
	for x := range 5 {
		both := sums[(x+4)%5] ^ turn(sums[(x+1)%5], 1)
		for y := range 5 {
			s[x+5*y] ^= both
		}
	}
	return s
}

// turnAndMove is the second and the third step in one: a word's next place is also where the walk over the offsets goes on.
func turnAndMove(s [25]uint64) [25]uint64 {
	moved := s
	x, y := 1, 0
	for t := range 24 {
		word := turn(s[x+5*y], (t+1)*(t+2)/2%64)
		x, y = y, (2*x+3*y)%5
		moved[x+5*y] = word
	}
	return moved
}

// mixRows is the fourth step: each word takes the two next ones of its row in.
func mixRows(s [25]uint64) [25]uint64 {
	for y := range 5 {
		// Taken first, for all five are changed at once.
		a, b, c, d, e := s[5*y], s[5*y+1], s[5*y+2], s[5*y+3], s[5*y+4]
		s[5*y] = a ^ ^b&c
		s[5*y+1] = b ^ ^c&d
		s[5*y+2] = c ^ ^d&e
		s[5*y+3] = d ^ ^e&a
		s[5*y+4] = e ^ ^a&b
	}
	return s
}

// turn is w turned left by n bits.
func turn(w uint64, n int) uint64 {
	return w<<n | w>>(64-n)
}
