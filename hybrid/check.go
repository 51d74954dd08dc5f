package hybrid

import (
	"barbican/api"
	"barbican/ecdsa"
	"barbican/mldsa"
	"barbican/sha2"
)

// A check is that of one part of a signature, by its own part of the key: what it says of a message.
type check interface {
	of(msg []byte) api.Errno
}

type onCurve struct{ key, sig []byte }

func (c onCurve) of(msg []byte) api.Errno {
	digest := sha2.Sum256(msg)
	if ecdsa.Verify(c.key, digest[:], c.sig) != api.OK {
		return api.ErrHybridFirst
	}
	return api.OK
}

type onLattice struct{ key, sig []byte }

func (l onLattice) of(msg []byte) api.Errno {
	if mldsa.Verify(l.key, msg, nil, l.sig) != api.OK {
		return api.ErrHybridSecond
	}
	return api.OK
}
