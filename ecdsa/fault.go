package ecdsa

import "barbican/api"

// What a fault may be in.
const (
	inKey = 1 + iota
	inSig
)

// A fault is what a layer below says of a part of what was handed in.
type fault struct {
	in   int
	what api.Errno
}

// told is a fault as this layer's error.
func (f fault) told() api.Errno {
	switch f {
	case fault{inKey, api.ErrCurveForm}, fault{inKey, api.ErrCurvePoint}:
		return api.ErrEcdsaKey
	case fault{inSig, api.ErrFieldRange}, fault{inSig, api.ErrFieldZero}:
		return api.ErrEcdsaRange
	}
	return f.what
}
