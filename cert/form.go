package cert

import (
	"bytes"
	"slices"

	"barbican/api"
	"barbican/der"
)

// The tags of a certificate's parts, beside those that der reads.
const (
	tagBytes   = 0x04
	tagText    = 0x0c
	tagTime    = 0x18
	tagSeq     = 0x30
	tagSet     = 0x31
	tagVersion = 0xa0
	tagExts    = 0xa3
)

const (
	version   = 2
	notBefore = "20000101000000Z"
	notAfter  = "99991231235959Z"

	// What stands behind the numbers that all names of ours begin with.
	extensions     = 2100
	algorithms     = 2200
	bothSignatures = 1

	// An item has no more parts than bytes.
	manyParts = api.MaxDer
)

// ours is the name of an object of this profile.
func ours(more ...uint64) []uint64 {
	return append([]uint64{1, 3, 6, 1, 4, 1, 4128}, more...)
}

func item(tag byte, kids ...api.Item) api.Item { return api.Item{Tag: tag, Kids: kids} }

func seq(kids ...api.Item) api.Item { return item(tagSeq, kids...) }

func object(name ...uint64) api.Item { return passed(der.OfOID(name)) }

func text(tag byte, s string) api.Item { return api.Item{Tag: tag, Body: []byte(s)} }

// The parts that are the same ones in each certificate.

func ofVersion() api.Item { return item(tagVersion, der.OfUint(version)) }

func ofAlgorithm() api.Item { return seq(object(ours(algorithms, bothSignatures)...)) }

func ofTimes() api.Item { return seq(text(tagTime, notBefore), text(tagTime, notAfter)) }

func ofCommonName() api.Item { return object(2, 5, 4, 3) }

func ofCert(c api.Cert) api.Item {
	return seq(ofSigned(c), ofAlgorithm(), der.OfBits(c.Sig))
}

// ofSigned is the item whose bytes are signed.
func ofSigned(c api.Cert) api.Item {
	l := []api.Item{
		ofVersion(), der.OfUint(c.Serial), ofAlgorithm(), ofName(c.Issuer), ofTimes(), ofName(c.Subject), seq(ofAlgorithm(), der.OfBits(c.Key)),
	}
	if len(c.Exts) > 0 {
		var exts []api.Item
		for _, x := range c.Exts {
			exts = append(exts, ofExt(x))
		}
		l = append(l, item(tagExts, seq(exts...)))
	}
	return seq(l...)
}

func ofName(name string) api.Item {
	return seq(item(tagSet, seq(ofCommonName(), text(tagText, name))))
}

func ofExt(x api.Ext) api.Item {
	l := []api.Item{object(ours(extensions, uint64(x.N))...)}
	if x.Critical {
		l = append(l, der.OfBool(true))
	}
	return seq(append(l, api.Item{Tag: tagBytes, Body: x.Value})...)
}

// read is the certificate whose item that is. Of what it is made of, the form alone is looked at.
func read(i api.Item) api.Cert {
	whole := formed(parts(i, tagSeq, 3, 3))
	signed := formed(parts(whole[0], tagSeq, 7, 8))
	key := formed(parts(signed[6], tagSeq, 2, 2))
	formed(one(whole[1], ofAlgorithm()))
	formed(one(signed[0], ofVersion()))
	formed(one(signed[2], ofAlgorithm()))
	formed(one(signed[4], ofTimes()))
	formed(one(key[0], ofAlgorithm()))
	return api.Cert{
		Serial:  formed(der.Uint(signed[1])),
		Issuer:  readName(signed[3]),
		Subject: readName(signed[5]),
		Key:     formed(der.Bits(key[1])),
		Exts:    readExts(signed[7:]),
		Sig:     formed(der.Bits(whole[2])),
	}
}

func readName(i api.Item) string {
	set := formed(parts(i, tagSeq, 1, 1))[0]
	pair := formed(parts(set, tagSet, 1, 1))[0]
	l := formed(parts(pair, tagSeq, 2, 2))
	formed(one(l[0], ofCommonName()))
	return string(formed(body(l[1], tagText)))
}

// readExts are the extensions of the last part of what is signed, if there is such a part.
func readExts(last []api.Item) []api.Ext {
	var l []api.Ext
	for _, i := range last {
		exts := formed(parts(i, tagExts, 1, 1))[0]
		for _, x := range formed(parts(exts, tagSeq, 1, manyParts)) {
			l = append(l, readExt(x))
		}
	}
	return l
}

func readExt(i api.Item) api.Ext {
	l := formed(parts(i, tagSeq, 2, 3))
	critical := len(l) == 3
	if critical {
		// That it is not is told by no bool at all.
		formed(one(l[1], der.OfBool(true)))
	}
	return api.Ext{N: formed(number(l[0])), Critical: critical, Value: formed(body(l[len(l)-1], tagBytes))}
}

// number is that of an extension with that object.
func number(i api.Item) (int, api.Errno) {
	name, e := der.OID(i)
	if e != api.OK {
		return 0, e
	}
	n := name[len(name)-1]
	if !slices.Equal(name, ours(extensions, n)) || n < leastNumber {
		return 0, api.ErrCertForm
	}
	return int(n), api.OK
}

// parts are what an item holds that must have that tag, and so many of them.
func parts(i api.Item, tag byte, least, most int) ([]api.Item, api.Errno) {
	if i.Tag != tag || len(i.Kids) < least || len(i.Kids) > most {
		return nil, api.ErrCertForm
	}
	return i.Kids, api.OK
}

// body is what a plain item holds that must have that tag.
func body(i api.Item, tag byte) ([]byte, api.Errno) {
	if i.Tag != tag {
		return nil, api.ErrCertForm
	}
	return i.Body, api.OK
}

// one is an item that must be that one.
func one(i, that api.Item) (api.Item, api.Errno) {
	if !same(i, that) {
		return api.Item{}, api.ErrCertForm
	}
	return i, api.OK
}

func same(a, b api.Item) bool {
	return a.Tag == b.Tag && bytes.Equal(a.Body, b.Body) && slices.EqualFunc(a.Kids, b.Kids, same)
}
