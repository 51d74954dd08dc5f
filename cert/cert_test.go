package cert_test

import (
	"bytes"
	"crypto/x509"
	"encoding/asn1"
	"math/big"
	"slices"
	"strings"
	"testing"

	"barbican/api"
	"barbican/cert"
	"barbican/der"
)

// parseIs looks at Parse, and at Bytes and Signed of what it tells.
func parseIs(t *testing.T, b []byte, want api.Errno) {
	t.Helper()
	c, signed, e := cert.Parse(b)
	model, modelSigned, modelError := parsed(b)
	if e != want || e != modelError {
		t.Fatalf("%d bytes: %v, not %v (%v)", len(b), e, want, modelError)
	}
	if !same(c, model) || !bytes.Equal(signed, modelSigned) {
		t.Fatalf("%d bytes: %v, %x", len(b), c, signed)
	}
	if e != api.OK {
		return
	}
	if back, e := cert.Bytes(c); e != api.OK || !bytes.Equal(back, b) {
		t.Fatalf("%d bytes: back as %d, %v", len(b), len(back), e)
	}
	if back, e := cert.Signed(c); e != api.OK || !bytes.Equal(back, signed) {
		t.Fatalf("%d bytes: signed are %d, %v", len(b), len(back), e)
	}
}

// parseIsModel looks at Parse where the model alone says what it is.
func parseIsModel(t *testing.T, b []byte) api.Errno {
	t.Helper()
	_, _, want := parsed(b)
	parseIs(t, b, want)
	return want
}

// writeIs looks at Signed and Bytes, and at Parse of what they tell.
func writeIs(t *testing.T, c api.Cert, signedError, bytesError api.Errno) {
	t.Helper()
	for _, call := range []struct {
		is   func(api.Cert) ([]byte, api.Errno)
		sig  bool
		wrap func(api.Cert) []byte
		want api.Errno
	}{{cert.Signed, false, wrapSigned, signedError}, {cert.Bytes, true, wrapCert, bytesError}} {
		b, e := call.is(c)
		model, modelError := written(c, call.sig, call.wrap)
		if e != call.want || e != modelError {
			t.Fatalf("%v, not %v (%v)", e, call.want, modelError)
		}
		if !bytes.Equal(b, model) {
			t.Fatalf("%x, not %x", b, model)
		}
	}
	if bytesError == api.OK {
		b, _ := cert.Bytes(c)
		parseIs(t, b, api.OK)
		if back, _, _ := cert.Parse(b); !same(back, c) {
			t.Fatalf("%v, not %v", back, c)
		}
	}
}

// some is one that may be: of three extensions, one of which is not critical.
func some() api.Cert {
	s := source(100)
	c := s.cert(0)
	c.Issuer, c.Subject, c.Serial = "root", "leaf", 7
	c.Exts = []api.Ext{{N: 1, Critical: true, Value: []byte{2, 1, 5}}, {N: 103, Critical: true, Value: wrap(4, s.bytes(32))}, {N: 300, Value: []byte{9}}}
	return c
}

// P13.1: C1.

func TestParse(t *testing.T) {
	s := source(1)
	for n := range 100 {
		parseIs(t, wrapCert(s.cert(n%17)), api.OK)
	}
}

// What is written is a certificate that others read too.
func TestLibraryReads(t *testing.T) {
	s := source(2)
	for n := range 50 {
		c := s.cert(n % 17)
		b, e := cert.Bytes(c)
		x, err := x509.ParseCertificate(b)
		if e != api.OK || err != nil {
			t.Fatal(e, err)
		}
		signed, _ := cert.Signed(c)
		if !bytes.Equal(x.RawTBSCertificate, signed) || !bytes.Equal(x.Signature, c.Sig) || x.Version != 3 || x.Issuer.CommonName != c.Issuer || x.Subject.CommonName != c.Subject {
			t.Fatal(x.Issuer, x.Subject)
		}
		if x.SerialNumber.Cmp(new(big.Int).SetUint64(c.Serial)) != 0 || x.NotBefore.Unix() != 946684800 || x.NotAfter.Unix() != 253402300799 || len(x.Extensions) != len(c.Exts) {
			t.Fatal(x.SerialNumber, x.NotBefore, x.NotAfter)
		}
		for k, ext := range x.Extensions {
			if !ext.Id.Equal(asn1.ObjectIdentifier{1, 3, 6, 1, 4, 1, 4128, 2100, c.Exts[k].N}) || ext.Critical != c.Exts[k].Critical || !bytes.Equal(ext.Value, c.Exts[k].Value) {
				t.Fatal(ext, c.Exts[k])
			}
		}
	}
}

func TestParseWhatDecodeRefuses(t *testing.T) {
	b := wrapCert(some())
	for n := range b {
		parseIs(t, b[:n], api.ErrDerEnd)
	}
	for x := range 256 {
		parseIs(t, append(slices.Clone(b), byte(x)), api.ErrDerMore)
	}
	parseIs(t, nil, api.ErrDerEnd)
	parseIs(t, slices.Concat(b, b), api.ErrDerMore)
	parseIs(t, append([]byte{0}, b...), api.ErrDerMore)
	parseIs(t, slices.Concat([]byte{0x1f}, b[1:]), api.ErrDerTag)
	parseIs(t, slices.Concat([]byte{0x30, 0x83, 0}, b[2:]), api.ErrDerLength)
	parseIs(t, make([]byte, 65537), api.ErrDerLong)
	deep := []byte{4, 0}
	for range 16 {
		deep = wrap(0x30, deep)
	}
	parseIs(t, deep, api.ErrDerDeep)
	// What der says is told ahead of all else, wherever it is.
	bad := some()
	bad.Subject, bad.Exts[1].N, bad.Exts[2].Critical = "", 1, true
	signed := wrapSigned(bad)
	parseIs(t, wrap(0x30, signed[:len(signed)-1], wrapAlgorithm(), wrapBits(nil)), api.ErrDerEnd)
	parseIs(t, wrap(0x30, []byte{5, 0}, signed, wrapAlgorithm(), []byte{3, 0x81, 1, 0}), api.ErrDerLength)
	parseIs(t, wrap(0x30, []byte{5, 0}, signed, []byte{0x1f, 0}), api.ErrDerTag)
}

// Items that are none of a certificate.
func TestParseOtherItems(t *testing.T) {
	for _, b := range [][]byte{
		{0x30, 0}, {5, 0}, {4, 1, 7}, {0x31, 0}, wrap(0x30, wrap(0x30), wrap(0x30), wrap(3)), wrap(0x30, wrap(0x30), wrapAlgorithm(), wrapBits(make([]byte, 3373))),
		wrapSigned(some()), wrapAlgorithm(), wrapExts(some().Exts), wrap(0x30, wrapCert(some())), wrap(0x30, wrapCert(some()), wrapCert(some()), wrapCert(some())),
		wrap(4, wrapCert(some())), wrap(0x31, wrapCert(some())[4:]),
	} {
		parseIs(t, b, api.ErrCertForm)
	}
}

// places are all the items of one, itself first.
func places(i *api.Item) []*api.Item {
	l := []*api.Item{i}
	for n := range i.Kids {
		l = append(l, places(&i.Kids[n])...)
	}
	return l
}

// itemOf is the item with those bytes, none of its memory being another one's.
func itemOf(b []byte) api.Item {
	i, e := der.Decode(b)
	if e != api.OK {
		panic(e)
	}
	return i
}

// changed looks at Parse of a certificate one of whose items was changed.
func changed(t *testing.T, b []byte, at int, change func(i *api.Item)) api.Errno {
	t.Helper()
	i := itemOf(b)
	change(places(&i)[at])
	out, e := der.Encode(i)
	if e != api.OK {
		t.Fatal(e)
	}
	return parseIsModel(t, out)
}

// Each item has its tag, and no other one.
func TestParseTags(t *testing.T) {
	b := wrapCert(some())
	i := itemOf(b)
	for at, one := range places(&i) {
		for n := range 256 {
			tag := byte(n)
			if tag == one.Tag || tag%32 == 31 {
				continue
			}
			e := changed(t, b, at, func(i *api.Item) {
				i.Tag = tag
				if tag&0x20 != one.Tag&0x20 {
					i.Body, i.Kids = nil, nil
				}
			})
			if e != api.ErrCertForm {
				t.Fatal(at, tag, e)
			}
		}
	}
}

// Each item has so many parts: none is missing, none is there twice, none is elsewhere, none is more.
func TestParseHowMany(t *testing.T) {
	c := some()
	b := wrapCert(c)
	i := itemOf(b)
	for at, one := range places(&i) {
		if one.Tag&0x20 == 0 {
			continue
		}
		refused := func(change func(i *api.Item)) {
			t.Helper()
			if e := changed(t, b, at, change); e != api.ErrCertForm {
				t.Fatal(at, e)
			}
		}
		exts := len(one.Kids) == 3 && one.Kids[0].Tag == 0x30 && one.Kids[0].Kids[0].Tag == 6
		for n := range one.Kids {
			if !exts && !(len(one.Kids) == 8 && n == 7) && !(len(one.Kids) == 3 && one.Kids[n].Tag == 1) {
				refused(func(i *api.Item) { i.Kids = slices.Delete(i.Kids, n, n+1) })
			}
			if !exts {
				refused(func(i *api.Item) { i.Kids = slices.Insert(i.Kids, n, i.Kids[n]) })
			}
			for m := range n {
				if one.Kids[m].Tag != one.Kids[n].Tag {
					refused(func(i *api.Item) { i.Kids[m], i.Kids[n] = i.Kids[n], i.Kids[m] })
				}
			}
		}
		for n := range len(one.Kids) + 1 {
			for _, more := range []api.Item{{Tag: 5}, {Tag: 4}, {Tag: 0x30}, {Tag: 0xa3}, {Tag: 1, Body: []byte{0}}, {Tag: 0xa1}, {Tag: 0x82, Body: []byte{0}}} {
				refused(func(i *api.Item) { i.Kids = slices.Insert(i.Kids, n, more) })
			}
		}
		refused(func(i *api.Item) { i.Kids = nil })
	}
}

// What may be left out, and what is another certificate then.
func TestParseLeftOut(t *testing.T) {
	c := some()
	i := itemOf(wrapCert(c))
	signed := &i.Kids[0]
	exts := &signed.Kids[7].Kids[0]
	look := func(want api.Cert) {
		t.Helper()
		b, e := der.Encode(i)
		if e != api.OK || !bytes.Equal(b, wrapCert(want)) {
			t.Fatal(e)
		}
		parseIs(t, b, api.OK)
	}
	exts.Kids[0].Kids = slices.Delete(exts.Kids[0].Kids, 1, 2)
	c.Exts[0].Critical = false
	look(c)
	for len(exts.Kids) > 1 {
		exts.Kids, c.Exts = exts.Kids[1:], c.Exts[1:]
		look(c)
	}
	all := *exts
	exts.Kids = nil
	b, _ := der.Encode(i)
	parseIs(t, b, api.ErrCertForm)
	signed.Kids[7].Kids = nil
	b, _ = der.Encode(i)
	parseIs(t, b, api.ErrCertForm)
	signed.Kids[7].Kids = []api.Item{all, all}
	b, _ = der.Encode(i)
	parseIs(t, b, api.ErrCertForm)
	signed.Kids = signed.Kids[:7]
	c.Exts = nil
	look(c)
}

// Each byte but most of those of the key and of the signature, changed in some ways: what is told is what the model says.
func TestParseEachByte(t *testing.T) {
	b := wrapCert(some())
	count := map[api.Errno]int{}
	key, sig := bytes.Index(b, some().Key), bytes.Index(b, some().Sig)
	for at := range b {
		if at > key+1 && at < key+2015 || at > sig+1 && at < sig+3371 {
			continue
		}
		for _, x := range []byte{0, 1, 2, 5, 0x1f, 0x20, 0x30, 0x7f, 0x80, 0xff, b[at] ^ 1, b[at] ^ 2, b[at] ^ 0x20, b[at] ^ 0x80, b[at] + 1, b[at] - 1} {
			other := slices.Clone(b)
			other[at] = x
			count[parseIsModel(t, other)]++
		}
	}
	for _, e := range []api.Errno{api.OK, api.ErrCertForm, api.ErrCertTwice, api.ErrCertCritical, api.ErrCertValue, api.ErrDerEnd, api.ErrDerMore, api.ErrDerTag, api.ErrDerLength} {
		if count[e] == 0 {
			t.Error(e)
		}
	}
}

// The bodies of what stands fixed in the form, changed in each byte, cut, and grown.
func TestParseFixed(t *testing.T) {
	b := wrapCert(some())
	i := itemOf(b)
	for at, one := range places(&i) {
		fixed := one.Tag == 0x18 || one.Tag == 6 || one.Tag == 1 || one.Tag == 2 && at == 3
		if !fixed {
			continue
		}
		isExt := strings.HasPrefix(string(one.Body), objectExt)
		for n := range one.Body {
			for _, x := range []byte{1, 2, 0x10, 0x40, 0x80} {
				e := changed(t, b, at, func(i *api.Item) { i.Body[n] ^= x })
				// The last bytes of an extension's object are its number.
				if e != api.ErrCertForm && !(isExt && n >= len(objectExt)) {
					t.Fatal(at, n, e)
				}
			}
		}
		for _, change := range []func(i *api.Item){
			func(i *api.Item) { i.Body = nil },
			func(i *api.Item) { i.Body = i.Body[:len(i.Body)-1] },
			func(i *api.Item) { i.Body = append([]byte{0}, i.Body...) },
			func(i *api.Item) { i.Body = append(i.Body, 0) },
			func(i *api.Item) { i.Body = append(i.Body, 1) },
			func(i *api.Item) { i.Body = append(i.Body, 0x80) },
			func(i *api.Item) { i.Body = slices.Concat(i.Body, i.Body) },
		} {
			if e := changed(t, b, at, change); e != api.ErrCertForm && !(isExt && e == api.OK) {
				t.Fatal(at, e)
			}
		}
	}
}

// Objects that are others, or none.
func TestParseObjects(t *testing.T) {
	good := wrapCert(some())
	bodies := []string{
		objectAlgorithm, objectName, objectExt + "\x01", objectExt, objectExt + "\x01\x01", objectExt + "\x80\x01", objectExt + "\x81", objectExt + "\x00", objectExt + "\x90\x80\x80\x80\x00",
		"", "\x00", "\x80", "\x55\x04", "\x55\x04\x04", "\x55\x04\x03\x01", "\x2b\x06\x01\x04\x01\xa0\x20\x91\x18\x02", "\x2b\x06\x01\x04\x01\xa0\x20\x91\x18",
		"\x2b\x06\x01\x04\x01\xa0\x21\x91\x18\x01", "\x2a\x06\x01\x04\x01\xa0\x20\x90\x34\x01", "\x2b\x06\x01\x04\x01\xa0\x20\x90\x35\x01", strings.Repeat("\x01", 25),
	}
	i := itemOf(good)
	for at, one := range places(&i) {
		if one.Tag != 6 {
			continue
		}
		isExt := strings.HasPrefix(string(one.Body), objectExt)
		for _, body := range bodies {
			e := changed(t, good, at, func(i *api.Item) { i.Body = []byte(body) })
			fine := body == string(one.Body) || isExt && body == objectExt+"\x01"
			if (e != api.ErrCertForm) != fine {
				t.Fatalf("%d: %x: %v", at, body, e)
			}
		}
	}
}

// Numbers, bools and bits as der reads them.
func TestParseDerValues(t *testing.T) {
	good := wrapCert(some())
	i := itemOf(good)
	all := places(&i)
	look := func(at int, body []byte, want api.Errno) {
		t.Helper()
		if e := changed(t, good, at, func(i *api.Item) { i.Body = body }); e != want {
			t.Fatalf("%d: %x: %v", at, body[:min(len(body), 20)], e)
		}
	}
	seen := map[byte]int{}
	for at, one := range all {
		seen[one.Tag]++
		switch one.Tag {
		case 2:
			for _, body := range [][]byte{nil, {0x80}, {0xff}, {0, 0}, {0, 0x7f}, {1, 0, 0, 0, 0, 0, 0, 0, 0}, {0, 0x80, 0, 0, 0, 0, 0, 0, 0, 0}, {0xff, 0xff}} {
				look(at, body, api.ErrCertForm)
			}
			for _, body := range [][]byte{{0}, {1}, {2}, {3}, {0x7f}, {0, 0x80}, {2, 0}, {0, 0xff, 0xff, 0xff, 0xff, 0xff, 0xff, 0xff, 0xff}, {0x7f, 0xff, 0xff, 0xff, 0xff, 0xff, 0xff, 0xff}} {
				want := api.OK
				if at == 3 && !bytes.Equal(body, []byte{2}) {
					want = api.ErrCertForm
				}
				look(at, body, want)
			}
		case 1:
			for x := range 255 {
				look(at, []byte{byte(x)}, api.ErrCertForm)
			}
			look(at, nil, api.ErrCertForm)
			look(at, []byte{0xff, 0xff}, api.ErrCertForm)
			look(at, []byte{0xff}, api.OK)
		case 3:
			look(at, nil, api.ErrCertForm)
			look(at, []byte{0}, api.ErrCertValue)
			for _, first := range []byte{1, 2, 7, 8, 0x80, 0xff} {
				look(at, append([]byte{first}, one.Body[1:]...), api.ErrCertForm)
				look(at, []byte{first}, api.ErrCertForm)
			}
		}
	}
	if seen[2] != 2 || seen[1] != 2 || seen[3] != 2 {
		t.Error(seen)
	}
}
