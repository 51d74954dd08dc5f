package keccak

// endless stands for a number of bytes: there is no end of them.
const endless = -1

// rateOf is how many bytes of the state are taken in, or given out, between two permutations.
func rateOf(kind int) int {
	switch kind {
	case Sha384:
		return 104
	case Sha512:
		return 72
	case Shake128:
		return 168
	}
	return 136
}

// endingOf is the byte behind the message.
func endingOf(kind int) byte {
	if sizeOf(kind) == endless {
		return 0x1f
	}
	return 0x06
}

// sizeOf is how many bytes are given out in all.
func sizeOf(kind int) int {
	switch kind {
	case Sha384:
		return 48
	case Sha512:
		return 64
	case Shake128, Shake256:
		return endless
	}
	return 32
}
