package cert_test

import (
	"bytes"
	"slices"
	"testing"

	"barbican/api"
	"barbican/cert"
	"barbican/der"
)

// P13.2.

func TestBack(t *testing.T) {
	s := source(40)
	for n := range 200 {
		writeIs(t, s.cert(n%17), api.OK, api.OK)
	}
	// Lists without elements, nil or not.
	c := some()
	c.Exts = nil
	writeIs(t, c, api.OK, api.OK)
	c.Exts = []api.Ext{}
	writeIs(t, c, api.OK, api.OK)
	c.Exts = []api.Ext{{N: 1}, {N: 2, Value: []byte{}}, {N: 3, Value: nil}}
	writeIs(t, c, api.OK, api.OK)
}

// A certificate whose signature alone was changed has the same bytes that are signed; one that was changed elsewhere has others.
func TestSignatureIsNotSigned(t *testing.T) {
	s := source(41)
	c := s.cert(5)
	want, _ := cert.Signed(c)
	for at := range c.Sig {
		other := clone(c)
		other.Sig[at] ^= 1 << s.below(8)
		b, _ := cert.Bytes(other)
		back, signed, e := cert.Parse(b)
		if e != api.OK || !bytes.Equal(signed, want) || !bytes.Equal(back.Sig, other.Sig) {
			t.Fatal(at, e)
		}
	}
	found := map[string]bool{string(want): true}
	for _, change := range []func(c *api.Cert){
		func(c *api.Cert) { c.Serial++ }, func(c *api.Cert) { c.Issuer += "x" }, func(c *api.Cert) { c.Subject += "x" }, func(c *api.Cert) { c.Key[0] ^= 1 }, func(c *api.Cert) { c.Key[2016] ^= 1 },
		func(c *api.Cert) { c.Exts = nil }, func(c *api.Cert) { c.Exts = c.Exts[1:] }, func(c *api.Cert) { slices.Reverse(c.Exts) }, func(c *api.Cert) { c.Exts[0].N = 2147 },
		func(c *api.Cert) { c.Exts[4].Value = append(c.Exts[4].Value, 0) }, func(c *api.Cert) { c.Issuer, c.Subject = c.Subject, c.Issuer },
		func(c *api.Cert) { c.Exts[0] = api.Ext{N: 201, Critical: true} }, func(c *api.Cert) { c.Exts[0] = api.Ext{N: 201} },
	} {
		other := clone(c)
		other.Issuer, other.Subject = "issuer", "subject"
		change(&other)
		signed, e := cert.Signed(other)
		if e != api.OK || found[string(signed)] {
			t.Fatal(e)
		}
		found[string(signed)] = true
	}
}

// Certificates that were changed in one place or two, and any items: what is told is what the model says.
func TestParseChanged(t *testing.T) {
	s := source(42)
	count := map[api.Errno]int{}
	for n := range 1500 {
		c := s.cert(n % 17)
		for k := range c.Exts {
			switch s.below(30) {
			case 0:
				c.Exts[k].N = c.Exts[s.below(len(c.Exts))].N
			case 1:
				c.Exts[k].Critical = true
			}
		}
		b := wrapCert(c)
		if s.below(2) == 0 {
			i := itemOf(b)
			all := places(&i)
			one, other := all[s.below(len(all))], all[s.below(len(all))]
			switch s.below(6) {
			case 0:
				one.Tag ^= 1 << s.below(5)
			case 1:
				one.Body = append(one.Body, byte(s.below(3)))
			case 2:
				one.Kids = append(one.Kids, api.Item{Tag: 4})
			case 3:
				one.Kids = one.Kids[:s.below(len(one.Kids)+1)]
			case 4:
				one.Tag, one.Body, other.Tag, other.Body = other.Tag, other.Body, one.Tag, one.Body
			default:
				one.Body = s.bytes(s.below(4))
			}
			if out, e := der.Encode(i); e == api.OK {
				b = out
			}
		}
		count[parseIsModel(t, b)]++
		at := s.below(len(b))
		if s.below(4) > 0 {
			at = s.below(300)
		}
		b[at] = byte(s.next())
		count[parseIsModel(t, b)]++
	}
	for _, e := range []api.Errno{api.OK, api.ErrCertForm, api.ErrCertValue, api.ErrCertTwice, api.ErrCertCritical, api.ErrDerEnd, api.ErrDerLength, api.ErrDerTag} {
		if count[e] == 0 {
			t.Error(e)
		}
	}
}

// Rules: what is handed in stays, what lies behind it is neither read nor written, what is answered is new, and no call changes what a later one tells.

// roomy is a list with the same bytes, and others behind its end.
func roomy(b []byte, behind byte) []byte {
	whole := append(slices.Clone(b), bytes.Repeat([]byte{behind}, 64)...)
	return whole[:len(b)]
}

// stays tells whether a list of roomy is as it was, in all its memory.
func stays(room, b []byte, behind byte) bool {
	want := append(slices.Clone(b), bytes.Repeat([]byte{behind}, 64)...)
	return len(room) == len(b) && bytes.Equal(room[:len(want)], want)
}

func roomyCert(c api.Cert, behind byte) api.Cert {
	exts := c.Exts
	c.Key, c.Sig, c.Exts = roomy(c.Key, behind), roomy(c.Sig, behind), nil
	for _, x := range exts {
		x.Value = roomy(x.Value, behind)
		c.Exts = append(c.Exts, x)
	}
	c.Exts = append(c.Exts, api.Ext{N: int(behind), Critical: true, Value: []byte{behind}})[:len(exts)]
	return c
}

func certStays(room, c api.Cert, behind byte) bool {
	last := room.Exts[:len(c.Exts)+1][len(c.Exts)]
	if last.N != int(behind) || !last.Critical || !bytes.Equal(last.Value, []byte{behind}) || !same(room, c) || !stays(room.Key, c.Key, behind) || !stays(room.Sig, c.Sig, behind) {
		return false
	}
	for n, x := range room.Exts {
		if !stays(x.Value, c.Exts[n].Value, behind) {
			return false
		}
	}
	return true
}

func TestWhatIsHandedIn(t *testing.T) {
	s := source(43)
	for n := range 17 {
		c := s.cert(n)
		c.Exts = append(c.Exts, api.Ext{N: 201, Value: wrapBits(c.Key)}, api.Ext{N: 101, Value: wrap(4, c.Key[:32])}, api.Ext{N: 1, Value: wrapUint(9)})[max(n-13, 0):]
		bad := clone(c)
		bad.Exts = append(bad.Exts, bad.Exts[0])
		for _, behind := range []byte{0, 0xff, 5} {
			for _, c := range []api.Cert{c, bad} {
				room := roomyCert(c, behind)
				want := fault(c, true)
				writeIs(t, room, want, want)
				for _, x := range c.Exts {
					findIs(t, room, x.N)
				}
				findIs(t, room, int(behind))
				if !certStays(room, c, behind) {
					t.Fatal("a certificate was written")
				}
				list := roomy(wrapCert(c), behind)
				parseIs(t, list, want)
				if !stays(list, wrapCert(c), behind) {
					t.Fatal("a list was written")
				}
			}
		}
	}
}

// fill writes into all the memory of a list of bytes, up to its end.
func fill(b []byte, x byte) {
	b = b[:cap(b)]
	for i := range b {
		b[i] = x
	}
}

// lists are all those of bytes of a certificate.
func lists(c api.Cert) [][]byte {
	l := [][]byte{c.Key, c.Sig}
	for _, x := range c.Exts {
		l = append(l, x.Value)
	}
	return l
}

// Each list of an answer is its own, whatever is written into the others or into what was handed in.
func TestAnswersAreNew(t *testing.T) {
	s := source(44)
	for n := range 17 {
		good := s.cert(n)
		b := wrapCert(good)
		c, signed, _ := cert.Parse(b)
		fill(b, 1)
		if !same(c, good) || !bytes.Equal(signed, wrapSigned(good)) {
			t.Fatal("Parse keeps what it was handed")
		}
		all := append(lists(c), signed)
		wanted := append(lists(good), wrapSigned(good))
		for k, one := range all {
			fill(one, 2)
			for m, other := range all {
				if m != k && !bytes.Equal(other, wanted[m]) {
					t.Fatal("two lists share memory")
				}
			}
			copy(one, wanted[k])
		}
		for _, call := range []func(api.Cert) ([]byte, api.Errno){cert.Signed, cert.Bytes} {
			was := clone(good)
			out, _ := call(good)
			want := slices.Clone(out)
			fill(out, 3)
			if !same(good, was) {
				t.Fatal("an answer is what was handed in")
			}
			out, _ = call(good)
			for _, one := range lists(good) {
				fill(one, 4)
			}
			if !bytes.Equal(out, want) {
				t.Fatal("an answer goes with what was handed in")
			}
			good = was
		}
	}
}

func TestFoundIsNew(t *testing.T) {
	s := source(45)
	key := s.bytes(2017)
	c := api.Cert{Exts: []api.Ext{{N: 201, Value: wrapBits(key)}, {N: 5}, {N: 6, Value: []byte{}}}}
	was := clone(c)
	x, _ := cert.Find(c, 201)
	got, _ := cert.Key(c, 201)
	fill(x.Value, 1)
	if !same(c, was) || !bytes.Equal(got, key) {
		t.Fatal("what was found is what was handed in")
	}
	fill(got, 2)
	if !same(c, was) {
		t.Fatal("a key is what was handed in")
	}
	x, _ = cert.Find(c, 201)
	got, _ = cert.Key(c, 201)
	fill(c.Exts[0].Value, 3)
	if !bytes.Equal(x.Value, was.Exts[0].Value) || !bytes.Equal(got, key) {
		t.Fatal("what was found goes with what was handed in")
	}
}

func TestSameTwice(t *testing.T) {
	s := source(46)
	c := s.cert(9)
	bad := clone(c)
	bad.Key = nil
	for range 3 {
		allIs(t, c, api.OK)
		allIs(t, bad, api.ErrCertValue)
		parseIs(t, []byte{0x30, 0}, api.ErrCertForm)
		parseIs(t, nil, api.ErrDerEnd)
		for _, x := range c.Exts {
			findIs(t, c, x.N)
		}
	}
}

// Nothing at all.
func TestNothing(t *testing.T) {
	writeIs(t, api.Cert{}, api.ErrCertValue, api.ErrCertValue)
	for n := -3; n < 3; n++ {
		findIs(t, api.Cert{}, n)
		findIs(t, api.Cert{Exts: []api.Ext{{}, {}}}, n)
	}
}

// The chapter's examples.
func TestExamples(t *testing.T) {
	parseIs(t, []byte{0x30, 0}, api.ErrCertForm)
	parseIs(t, nil, api.ErrDerEnd)
	for _, c := range []struct {
		change func(c *api.Cert)
		e      api.Errno
	}{
		{func(c *api.Cert) { c.Subject = "" }, api.ErrCertValue},
		{func(c *api.Cert) { c.Exts = []api.Ext{{N: 1}, {N: 1}} }, api.ErrCertTwice},
		{func(c *api.Cert) { c.Exts = []api.Ext{{N: 300, Critical: true}} }, api.ErrCertCritical},
		{func(c *api.Cert) { c.Exts = []api.Ext{{N: 300}} }, api.OK},
	} {
		one := some()
		c.change(&one)
		if b, e := cert.Signed(one); e != c.e || (len(b) > 0) != (e == api.OK) {
			t.Error(e, c.e)
		}
	}
}
