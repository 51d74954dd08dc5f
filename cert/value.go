package cert

import (
	"slices"

	"barbican/api"
)

// What a name's text may have.
const (
	leastOfName = ' '
	mostOfName  = '~'
)

// The numbers of the extensions that are known; an image's digest has that of digests and the image's own together.
const (
	secureCounter = 1
	otherCounter  = 2
	digests       = 100
	secureKey     = 201
	otherKey      = 202
	contentKey    = 203

	leastNumber = 1
	mostNumber  = 1<<31 - 1
)

// lookAtSig gives up, unless there is a signature.
func lookAtSig(c api.Cert) {
	must(len(c.Sig) == api.SigSize, api.ErrCertValue)
}

// lookAtSigned gives up, unless all that is signed may be in a certificate.
func lookAtSigned(c api.Cert) {
	must(isName(c.Issuer) && isName(c.Subject) && len(c.Key) == api.KeySize && len(c.Exts) <= api.MaxExts, api.ErrCertValue)
	for _, x := range c.Exts {
		must(leastNumber <= x.N && x.N <= mostNumber, api.ErrCertValue)
	}
	for n, x := range c.Exts {
		must(place(c.Exts, x.N) == n, api.ErrCertTwice)
	}
	for _, x := range c.Exts {
		must(isKnown(x.N) || !x.Critical, api.ErrCertCritical)
	}
}

func isName(s string) bool {
	if len(s) < 1 || len(s) > api.MaxName {
		return false
	}
	for _, b := range []byte(s) {
		if b < leastOfName || b > mostOfName {
			return false
		}
	}
	return true
}

func isKnown(n int) bool {
	switch n {
	case secureCounter, otherCounter, secureKey, otherKey, contentKey:
		return true
	}
	return n > digests+int(api.ImageNone) && n < digests+int(api.NumImages)
}

// place is that of the first extension with that number; -1, if there is none.
func place(exts []api.Ext, n int) int {
	return slices.IndexFunc(exts, func(x api.Ext) bool { return x.N == n })
}
