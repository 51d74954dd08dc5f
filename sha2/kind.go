package sha2

// A kind is a digest's, as it stands at the beginning of a state.
type kind byte

const (
	sha256 kind = iota + 1
	sha384
	sha512
)

// roots are the first 64 bits behind the point of the square roots of the first sixteen primes.
var roots = [16]uint64{
	0x6a09e667f3bcc908, 0xbb67ae8584caa73b, 0x3c6ef372fe94f82b, 0xa54ff53a5f1d36f1,
	0x510e527fade682d1, 0x9b05688c2b3e6c1f, 0x1f83d9abfb41bd6b, 0x5be0cd19137e2179,
	0xcbbb9d5dc1059ed8, 0x629a292a367cd507, 0x9159015a3070dd17, 0x152fecd8f70e5939,
	0x67332667ffc00b31, 0x8eb44a8768581511, 0xdb0c2e0d64f98fa7, 0x47b5481dbefa4fa4,
}

// wordSize is how many bytes a word has.
func (k kind) wordSize() int {
	if k == sha256 {
		return 4
	}
	return 8
}

// blockSize is how many bytes a block has: sixteen words, of each kind.
func (k kind) blockSize() int {
	return 16 * k.wordSize()
}

// digestSize is how many bytes the digest has.
func (k kind) digestSize() int {
	switch k {
	case sha256:
		return 32
	case sha384:
		return 48
	}
	return 64
}

// firstWords is the first state.
func (k kind) firstWords() [8]uint64 {
	var words [8]uint64
	for i := range words {
		switch k {
		case sha256:
			// Fewer bits of the same roots are their upper ones.
			words[i] = roots[i] >> 32
		case sha384:
			words[i] = roots[8+i]
		default:
			words[i] = roots[i]
		}
	}
	return words
}

// mix is the state behind a block.
func (k kind) mix(words [8]uint64, block []byte) [8]uint64 {
	if k == sha256 {
		return mix32(words, block)
	}
	return mix64(words, block)
}
