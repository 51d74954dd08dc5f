package cert_test

import (
	"bytes"
	"slices"
	"strings"
	"testing"

	"barbican/api"
	"barbican/cert"
)

// P13.1: C1 and C2, the values.

// allIs looks at a certificate read and written, which answers that, whichever is asked.
func allIs(t *testing.T, c api.Cert, want api.Errno) {
	t.Helper()
	parseIs(t, wrapCert(c), want)
	writeIs(t, c, want, want)
}

// extsOf are extensions with those numbers, none of them critical.
func extsOf(numbers ...int) []api.Ext {
	var l []api.Ext
	for _, n := range numbers {
		l = append(l, api.Ext{N: n, Value: []byte{byte(n)}})
	}
	return l
}

func valueIf(wrong bool) api.Errno {
	if wrong {
		return api.ErrCertValue
	}
	return api.OK
}

func TestSerials(t *testing.T) {
	c := some()
	for n := range 64 {
		for _, serial := range []uint64{1<<n - 1, 1 << n, 1<<n + 1, 1<<64 - 1 - 1<<n, 1<<64 - 1} {
			c.Serial = serial
			allIs(t, c, api.OK)
		}
	}
}

func TestNames(t *testing.T) {
	for _, set := range []func(c *api.Cert, s string){func(c *api.Cert, s string) { c.Issuer = s }, func(c *api.Cert, s string) { c.Subject = s }} {
		c := some()
		for _, long := range []int{0, 1, 2, 63, 64, 65, 66, 127, 128, 300, 10000} {
			set(&c, strings.Repeat("x", long))
			allIs(t, c, valueIf(long < 1 || long > 64))
		}
		for x := range 256 {
			want := valueIf(x < 32 || x > 126)
			for _, name := range [][]byte{{byte(x)}, {byte(x), 'a'}, {'a', byte(x)}, append(bytes.Repeat([]byte{'a'}, 63), byte(x)), {'a', byte(x), 'b'}} {
				set(&c, string(name))
				allIs(t, c, want)
			}
		}
		for _, name := range []string{"\u00e9", "a\u2028", "\x7f", "\xff\xfe", strings.Repeat("\u00e9", 32), strings.Repeat("\u00e9", 33), strings.Repeat("~", 65), "\x00"} {
			set(&c, name)
			allIs(t, c, api.ErrCertValue)
		}
		for _, name := range []string{" ", "~", "  ", "a/b=c,d", `"\`, strings.Repeat("~", 64), strings.Repeat(" ", 64)} {
			set(&c, name)
			allIs(t, c, api.OK)
		}
	}
}

func TestKeysAndSigs(t *testing.T) {
	c := some()
	for _, long := range []int{0, 1, 65, 1952, 2015, 2016, 2017, 2018, 2019, 3373, 5000} {
		c.Key = bytes.Repeat([]byte{0xff}, long)
		allIs(t, c, valueIf(long != 2017))
	}
	c = some()
	for _, long := range []int{0, 1, 64, 2017, 3309, 3371, 3372, 3373, 3374, 3375, 9000} {
		c.Sig = bytes.Repeat([]byte{0xff}, long)
		parseIs(t, wrapCert(c), valueIf(long != 3373))
		// Of the bytes that are signed the signature is no part.
		writeIs(t, c, api.OK, valueIf(long != 3373))
	}
	for _, x := range []byte{0, 0x80, 0xff} {
		c.Key, c.Sig = bytes.Repeat([]byte{x}, 2017), bytes.Repeat([]byte{x}, 3373)
		allIs(t, c, api.OK)
	}
}

func TestNumbers(t *testing.T) {
	for n := range 32 {
		for _, number := range []int{1<<n - 1, 1 << n, 1<<n + 1} {
			for at := range 3 {
				c := some()
				c.Exts = extsOf(4000, 4001, 4002)
				c.Exts[at].N = number
				want := valueIf(number < 1 || number > 1<<31-1)
				writeIs(t, c, want, want)
				if number == 0 {
					// That it is 1 or more is of the form.
					want = api.ErrCertForm
				}
				parseIs(t, wrapCert(c), want)
			}
		}
	}
	c := some()
	for _, number := range []int{1<<32 - 1, 1<<32 - 2} {
		c.Exts = extsOf(number)
		allIs(t, c, api.ErrCertValue)
	}
	// Above that an object has no such number.
	for _, number := range []int{1 << 32, 1<<32 + 1, 1<<35 - 1, 1 << 35, 1<<63 - 1} {
		c.Exts = extsOf(number)
		parseIs(t, wrapCert(c), api.ErrCertForm)
		writeIs(t, c, api.ErrCertValue, api.ErrCertValue)
	}
	for _, number := range []int{-1, -2, -1 << 31, -1<<31 + 1, -1 << 32, 1 - 1<<32, -1 << 63} {
		c.Exts = extsOf(number)
		writeIs(t, c, api.ErrCertValue, api.ErrCertValue)
	}
}

func TestHowManyExts(t *testing.T) {
	c := some()
	for n := range 40 {
		c.Exts = nil
		for k := range n {
			c.Exts = append(c.Exts, extsOf(1000+k)...)
		}
		allIs(t, c, valueIf(n > 16))
	}
	c.Exts = make([]api.Ext, 2000)
	for k := range c.Exts {
		c.Exts[k].N = 1
	}
	allIs(t, c, api.ErrCertValue)
}

func TestTwice(t *testing.T) {
	for n := 2; n <= 16; n++ {
		for b := range n {
			for a := range b {
				c := some()
				c.Exts = nil
				for k := range n {
					c.Exts = append(c.Exts, extsOf(101+k)...)
				}
				c.Exts[b].N = c.Exts[a].N
				allIs(t, c, api.ErrCertTwice)
				c.Exts[a].Critical = true
				allIs(t, c, api.ErrCertTwice)
			}
		}
	}
	// The same value is no fault, another one doesn't make numbers others.
	c := some()
	c.Exts = []api.Ext{{N: 5, Value: []byte{1}}, {N: 6, Value: []byte{1}}}
	allIs(t, c, api.OK)
	c.Exts = []api.Ext{{N: 5, Value: []byte{1}}, {N: 5, Value: []byte{2}}}
	allIs(t, c, api.ErrCertTwice)
}

func TestCritical(t *testing.T) {
	numbers := []int{1<<31 - 1, 1 << 30, 65536 + 1, 256 + 101, 1000, 1 << 16, 2100, 2200, 1<<31 - 2}
	for n := 1; n < 320; n++ {
		numbers = append(numbers, n)
	}
	for _, n := range numbers {
		known := n == 1 || n == 2 || n >= 101 && n <= 111 || n >= 201 && n <= 203
		if slices.Contains(knownNumbers, n) != known {
			t.Fatal("the test's own numbers:", n)
		}
		want := api.OK
		if !known {
			want = api.ErrCertCritical
		}
		c := some()
		c.Exts = extsOf(n)
		allIs(t, c, api.OK)
		c.Exts[0].Critical = true
		allIs(t, c, want)
		c.Exts = slices.Concat(extsOf(3, 4), c.Exts, extsOf(5))
		if n < 3 || n > 5 {
			allIs(t, c, want)
		}
	}
	c := some()
	c.Exts = extsOf(knownNumbers...)
	for k := range c.Exts {
		c.Exts[k].Critical = true
	}
	allIs(t, c, api.OK)
}

func TestExtValues(t *testing.T) {
	s := source(20)
	c := some()
	for _, long := range []int{0, 1, 2, 100, 126, 127, 128, 129, 255, 256, 257, 1000, 38000} {
		c.Exts = []api.Ext{{N: 1, Value: s.bytes(long)}, {N: 101, Critical: true, Value: s.bytes(long / 2)}, {N: 999}}
		allIs(t, c, api.OK)
	}
	// What a value's bytes say of themselves is not looked at here.
	for _, value := range [][]byte{{0x30, 0x80}, {0x1f}, {2, 1, 0xff}, {4, 0xff}} {
		c.Exts = []api.Ext{{N: 1, Critical: true, Value: value}, {N: 203, Value: value}}
		allIs(t, c, api.OK)
	}
}

// Of several faults the first one of the chapter's order is told, wherever they stand.
func TestOrder(t *testing.T) {
	values := []func(c *api.Cert){
		func(c *api.Cert) { c.Issuer = "" },
		func(c *api.Cert) { c.Subject = "\n" },
		func(c *api.Cert) { c.Key = c.Key[1:] },
		func(c *api.Cert) { c.Exts[9].N = 1 << 31 },
		func(c *api.Cert) { c.Exts = append(c.Exts, extsOf(900, 901, 902, 903, 904, 905, 906)...) },
	}
	forms := []func(c *api.Cert) []byte{
		func(c *api.Cert) []byte { c.Exts[8].N = 0; return wrapCert(*c) },
		func(c *api.Cert) []byte { return bytes.Replace(wrapCert(*c), []byte("2000"), []byte("2001"), 1) },
		func(c *api.Cert) []byte {
			return wrap(0x30, wrapSigned(*c), wrapAlgorithm(), wrap(3, []byte{1}, c.Sig))
		},
		func(c *api.Cert) []byte { return wrap(0x30, wrapSigned(*c), wrapName("x"), wrapBits(c.Sig)) },
	}
	for mask := range 1 << 4 {
		for _, value := range values {
			for _, form := range forms {
				c := some()
				c.Exts = extsOf(30, 31, 32, 33, 34, 35, 36, 37, 38, 39)
				want := api.OK
				if mask&1 != 0 {
					c.Exts[mask%3].Critical, want = true, api.ErrCertCritical
				}
				if mask&2 != 0 {
					c.Exts[3+mask%4].N, want = 37, api.ErrCertTwice
				}
				if mask&4 != 0 {
					value(&c)
					want = api.ErrCertValue
				}
				allIs(t, c, want)
				// A signature that is none is no fault of what is signed.
				short := c
				short.Sig = short.Sig[1:]
				writeIs(t, short, want, api.ErrCertValue)
				parseIs(t, wrapCert(short), api.ErrCertValue)
				if mask&8 != 0 {
					parseIs(t, form(&c), api.ErrCertForm)
					parseIs(t, form(&short), api.ErrCertForm)
				}
			}
		}
	}
}

// What is too long for der: as a whole, or what is signed already.
func TestTooLong(t *testing.T) {
	c := some()
	c.Exts = extsOf(1)
	c.Exts[0].Value = make([]byte, 50000)
	whole, signed := len(wrapCert(c))-50000, len(wrapSigned(c))-50000
	for _, over := range []int{-1000, -2, -1, 0, 1, 2, 1000} {
		c.Exts[0].Value = make([]byte, 65536-whole+over)
		parseIs(t, wrapCert(c), longIf(over > 0))
		writeIs(t, c, api.OK, longIf(over > 0))
		c.Exts[0].Value = make([]byte, 65536-signed+over)
		parseIs(t, wrapCert(c), api.ErrDerLong)
		writeIs(t, c, longIf(over > 0), api.ErrDerLong)
		// All else is told ahead of that.
		other := clone(c)
		other.Subject = ""
		writeIs(t, other, api.ErrCertValue, api.ErrCertValue)
		other = clone(c)
		other.Exts = append(other.Exts, extsOf(1)...)
		writeIs(t, other, api.ErrCertTwice, api.ErrCertTwice)
		other.Exts[1] = api.Ext{N: 3, Critical: true}
		writeIs(t, other, api.ErrCertCritical, api.ErrCertCritical)
		other = clone(c)
		other.Sig = nil
		writeIs(t, other, longIf(over > 0), api.ErrCertValue)
	}
	// The same bytes at each place are so many bytes.
	much := make([]byte, 1<<26)
	c.Exts = extsOf(1, 2, 3, 4, 5, 6, 7, 8, 9, 10, 11, 12, 13, 14, 15, 16)
	for k := range c.Exts {
		c.Exts[k].Value = much
	}
	for _, call := range []func(api.Cert) ([]byte, api.Errno){cert.Signed, cert.Bytes} {
		if b, e := call(c); len(b) != 0 || e != api.ErrDerLong {
			t.Error(len(b), e)
		}
	}
}

func longIf(wrong bool) api.Errno {
	if wrong {
		return api.ErrDerLong
	}
	return api.OK
}
