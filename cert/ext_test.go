package cert_test

import (
	"bytes"
	"slices"
	"testing"

	"barbican/api"
	"barbican/cert"
)

// P13.1: C3.

// findIs looks at all calls that look for an extension of that number.
func findIs(t *testing.T, c api.Cert, n int) {
	t.Helper()
	x, ok := cert.Find(c, n)
	counter, counterError := cert.Counter(c, n)
	hash, hashError := cert.Hash(c, n)
	key, keyError := cert.Key(c, n)
	want := found(c, n)
	if want == nil {
		if ok || !sameExt(x, api.Ext{}) || counter != 0 || hash != [32]byte{} || len(key) != 0 {
			t.Fatal(n, x, ok, counter, hash, key)
		}
		if counterError != api.ErrCertForm || hashError != api.ErrCertForm || keyError != api.ErrCertForm {
			t.Fatal(n, counterError, hashError, keyError)
		}
		return
	}
	if !ok || !sameExt(x, *want) {
		t.Fatal(n, x, ok)
	}
	value := want.Value[:min(len(want.Value), 40)]
	if v, e := counted(want.Value); counter != v || counterError != e {
		t.Fatalf("%x: %d, %v, not %d, %v", value, counter, counterError, v, e)
	}
	if v, e := hashed(want.Value); hash != v || hashError != e {
		t.Fatalf("%x: %x, %v, not %x, %v", value, hash, hashError, v, e)
	}
	if v, e := keyed(want.Value); !bytes.Equal(key, v) || keyError != e {
		t.Fatalf("%x: %x, %v, not %x, %v", value, key, keyError, v, e)
	}
}

func TestFind(t *testing.T) {
	s := source(30)
	for n := range 60 {
		c := s.cert(n % 17)
		for _, x := range c.Exts {
			findIs(t, c, x.N)
			findIs(t, c, x.N+1)
			findIs(t, c, -x.N)
		}
		for _, number := range []int{0, 1, 2, -1, 100, 101, 201, 1 << 32, 1<<63 - 1, -1 << 63} {
			findIs(t, c, number)
		}
	}
	findIs(t, api.Cert{}, 0)
	findIs(t, api.Cert{}, 1)
}

// Of several with one number it is the first, and what else is in a certificate doesn't matter.
func TestFindFirst(t *testing.T) {
	c := api.Cert{Exts: []api.Ext{{N: 3}, {N: 5, Value: []byte{2, 1, 9}}, {N: 5, Critical: true, Value: []byte{2, 1, 8}}, {N: 3, Critical: true, Value: []byte{7}}, {N: 0, Value: []byte{2, 1, 4}}, {N: -7, Value: []byte{2, 1, 3}}}}
	for n := -9; n < 9; n++ {
		findIs(t, c, n)
	}
	for n, want := range map[int]uint32{5: 9, 0: 4, -7: 3} {
		if v, e := cert.Counter(c, n); v != want || e != api.OK {
			t.Error(n, v, e)
		}
	}
	slices.Reverse(c.Exts)
	for n := -9; n < 9; n++ {
		findIs(t, c, n)
	}
	if v, e := cert.Counter(c, 5); v != 8 || e != api.OK {
		t.Error(v, e)
	}
	// A second one does not stand in for a first that holds nothing of the kind.
	if v, e := cert.Counter(c, 3); v != 0 || e != api.ErrCertValue {
		t.Error(v, e)
	}
}

// valueIs looks at the calls for an extension with that value, the first one or the last of others.
func valueIs(t *testing.T, value []byte) {
	t.Helper()
	findIs(t, api.Cert{Exts: []api.Ext{{N: 7, Value: value}}}, 7)
	findIs(t, api.Cert{Exts: []api.Ext{{N: 1, Value: []byte{2, 1, 1}}, {N: 7, Critical: true, Value: value}, {N: 7}}}, 7)
}

func TestShortValues(t *testing.T) {
	valueIs(t, nil)
	for a := range 256 {
		valueIs(t, []byte{byte(a)})
		for b := range 256 {
			valueIs(t, []byte{byte(a), byte(b)})
			valueIs(t, []byte{2, byte(a), byte(b)})
			valueIs(t, []byte{2, 2, byte(a), byte(b)})
		}
	}
}

func TestCounter(t *testing.T) {
	for n := range 64 {
		for _, v := range []uint64{1<<n - 1, 1 << n, 1<<n + 1, 1<<64 - 1 - 1<<n} {
			b := wrapUint(v)
			valueIs(t, b)
			got, e := cert.Counter(api.Cert{Exts: []api.Ext{{N: 2, Value: b}}}, 2)
			if v < 1<<32 && (uint64(got) != v || e != api.OK) || v >= 1<<32 && (got != 0 || e != api.ErrCertValue) {
				t.Fatal(v, got, e)
			}
			for _, other := range [][]byte{
				append(slices.Clone(b), 0), b[:len(b)-1], wrap(0x30, b), wrap(0x22, b), wrap(4, b), slices.Concat(b, b), slices.Concat([]byte{5, 0}, b),
				slices.Concat([]byte{2, b[1] + 1, 0}, b[2:]), slices.Concat([]byte{2, 0x81}, b[1:]), slices.Concat([]byte{0x82}, b[1:]), slices.Concat([]byte{0x0a}, b[1:]),
			} {
				valueIs(t, other)
			}
		}
	}
	for _, value := range [][]byte{{2, 0}, {2, 1, 0x80}, {2, 1, 0xff}, {2, 2, 0, 0}, {2, 2, 0, 0x7f}, {2, 5, 1, 0, 0, 0, 0}, {2, 9, 0, 0xff, 0xff, 0xff, 0xff, 0xff, 0xff, 0xff, 0xff}, {2, 9, 1, 0, 0, 0, 0, 0, 0, 0, 5}} {
		valueIs(t, value)
		if v, e := cert.Counter(api.Cert{Exts: []api.Ext{{N: 1, Value: value}}}, 1); v != 0 || e != api.ErrCertValue {
			t.Errorf("%x: %d, %v", value, v, e)
		}
	}
}

func TestHash(t *testing.T) {
	s := source(31)
	for _, long := range []int{0, 1, 31, 32, 33, 34, 64, 127, 128, 1000} {
		for _, body := range [][]byte{s.bytes(long), make([]byte, long), bytes.Repeat([]byte{0xff}, long)} {
			for tag := range 256 {
				valueIs(t, wrap(byte(tag), body))
				got, e := cert.Hash(api.Cert{Exts: []api.Ext{{N: 101, Value: wrap(byte(tag), body)}}}, 101)
				if fine := tag == 4 && long == 32; fine && (!bytes.Equal(got[:], body) || e != api.OK) || !fine && (got != [32]byte{} || e != api.ErrCertValue) {
					t.Fatal(tag, long, e)
				}
			}
			b := wrap(4, body)
			for _, other := range [][]byte{append(slices.Clone(b), 0), b[:len(b)-1], b[1:], wrap(0x30, b), wrap(4, b), wrap(0x24, b), slices.Concat([]byte{4, 0x81}, b[1:]), slices.Concat(b, b)} {
				valueIs(t, other)
			}
		}
	}
}

func TestKey(t *testing.T) {
	s := source(32)
	for _, long := range []int{0, 1, 65, 1952, 2015, 2016, 2017, 2018, 2019, 3373, 65535} {
		body := s.bytes(long)
		c := api.Cert{Exts: []api.Ext{{N: 203, Value: wrapBits(body)}}}
		got, e := cert.Key(c, 203)
		if fine := long == 2017; fine && (!bytes.Equal(got, body) || e != api.OK) || !fine && (len(got) != 0 || e != api.ErrCertValue) {
			t.Fatal(long, e)
		}
		valueIs(t, wrapBits(body))
		for first := range 256 {
			valueIs(t, wrap(3, []byte{byte(first)}, body))
		}
		for tag := range 256 {
			valueIs(t, wrap(byte(tag), []byte{0}, body))
		}
		b := wrapBits(body)
		for _, other := range [][]byte{append(slices.Clone(b), 0), b[:len(b)-1], b[1:], wrap(0x30, b), wrap(3, body), wrap(3, []byte{0}, b), wrap(0x23, b), slices.Concat(b, b)} {
			valueIs(t, other)
		}
	}
}

// Values that are too long for an item, or too deep.
func TestValuesThatDerRefuses(t *testing.T) {
	for _, long := range []int{65532, 65533, 1 << 17} {
		valueIs(t, wrap(4, make([]byte, long)))
		valueIs(t, make([]byte, long))
	}
	b := wrap(4, make([]byte, 32))
	for range 20 {
		valueIs(t, b)
		b = wrap(0x30, b)
	}
	for _, b := range [][]byte{{0x1f, 0}, {4, 0x80}, {2, 0x84, 0, 0, 0, 1, 5}, {2, 0x82, 0, 1, 5}, {2, 1}, {3, 5, 0}} {
		valueIs(t, b)
	}
}

// What a certificate that was read holds is found in it.
func TestFindInWhatWasRead(t *testing.T) {
	s := source(33)
	c := some()
	key, hash := s.bytes(2017), s.bytes(32)
	c.Exts = []api.Ext{{N: 203, Critical: true, Value: wrapBits(key)}, {N: 2, Critical: true, Value: wrapUint(1<<32 - 1)}, {N: 111, Critical: true, Value: wrap(4, hash)}}
	allIs(t, c, api.OK)
	b, _ := cert.Bytes(c)
	c, _, _ = cert.Parse(b)
	if v, e := cert.Counter(c, 2); v != 1<<32-1 || e != api.OK {
		t.Error(v, e)
	}
	if v, e := cert.Hash(c, 111); v != [32]byte(hash) || e != api.OK {
		t.Error(v, e)
	}
	if v, e := cert.Key(c, 203); !bytes.Equal(v, key) || e != api.OK {
		t.Error(v, e)
	}
	for n := range 300 {
		findIs(t, c, n)
	}
}
