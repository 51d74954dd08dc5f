package ring

import "barbican/api"

const (
	lowBits = 13

	highStep = 523776
	// Sixteen steps are Q - 1, so that the high parts go round with the numbers.
	highParts = (Q - 1) / highStep
)

// Power2Round parts a number at its 13th bit.
func Power2Round(r int32) (int32, int32, api.Errno) {
	if !isPlain(r) {
		return 0, 0, api.ErrRingRange
	}
	high, low := nearest(r, 1<<lowBits)
	return high, low, api.OK
}

// Decompose parts a number by 523776.
func Decompose(r int32) (int32, int32, api.Errno) {
	if !isPlain(r) {
		return 0, 0, api.ErrRingRange
	}
	high, low := nearest(r, highStep)
	if high == highParts {
		// Q - 1 counts as -1.
		return 0, low - 1, api.OK
	}
	return high, low, api.OK
}

// MakeHint tells whether adding z changes the high part of r.
func MakeHint(z, r int32) (bool, api.Errno) {
	if !isPlain(z) || !isPlain(r) {
		return false, api.ErrRingRange
	}
	without, _, _ := Decompose(r)
	with, _, _ := Decompose(plus(r, z))
	return with != without, api.OK
}

// UseHint is the high part, corrected.
func UseHint(h bool, r int32) (int32, api.Errno) {
	high, low, e := Decompose(r)
	switch {
	case e != api.OK || !h:
		return high, e
	case low > 0:
		return (high + 1) % highParts, api.OK
	}
	return (high + highParts - 1) % highParts, api.OK
}

// nearest is the number of steps that comes nearest to r, the smaller one of two that are as near, and what r is more than these. Steps are even.
func nearest(r, step int32) (int32, int32) {
	high := (r + step/2 - 1) / step
	return high, r - high*step
}
