package cert

import (
	"bytes"

	"barbican/api"
	"barbican/der"
)

// Find is the extension of a number.
func Find(c api.Cert, n int) (api.Ext, bool) {
	at := place(c.Exts, n)
	if at < 0 {
		return api.Ext{}, false
	}
	x := c.Exts[at]
	x.Value = bytes.Clone(x.Value)
	return x, true
}

// Counter reads a counter's extension.
func Counter(c api.Cert, n int) (uint32, api.Errno) {
	i, e := itemOf(c, n)
	if e != api.OK {
		return 0, e
	}
	v, e := der.Uint(i)
	if e != api.OK || v > api.MaxCounter {
		return 0, api.ErrCertValue
	}
	return uint32(v), api.OK
}

// Hash reads a digest's extension.
func Hash(c api.Cert, n int) ([32]byte, api.Errno) {
	i, e := itemOf(c, n)
	if e != api.OK {
		return [32]byte{}, e
	}
	if i.Tag != tagBytes || len(i.Body) != api.HashSize {
		return [32]byte{}, api.ErrCertValue
	}
	return [32]byte(i.Body), api.OK
}

// Key reads a key's extension.
func Key(c api.Cert, n int) ([]byte, api.Errno) {
	i, e := itemOf(c, n)
	if e != api.OK {
		return nil, e
	}
	b, e := der.Bits(i)
	if e != api.OK || len(b) != api.KeySize {
		return nil, api.ErrCertValue
	}
	return b, api.OK
}

// itemOf is the item whose bytes are the value of an extension.
func itemOf(c api.Cert, n int) (api.Item, api.Errno) {
	x, ok := Find(c, n)
	if !ok {
		return api.Item{}, api.ErrCertForm
	}
	i, e := der.Decode(x.Value)
	if e != api.OK {
		return api.Item{}, api.ErrCertValue
	}
	return i, api.OK
}
