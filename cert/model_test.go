package cert_test

import (
	"bytes"
	"encoding/asn1"
	"encoding/hex"
	"math/big"
	"regexp"
	"slices"
	"strings"

	"barbican/api"
	"barbican/der"
)

// The chapter's words another way: certificates are written as bytes, one behind the other, and read as texts that a pattern must match. What the package answers is held against these.

// What the objects' bodies are, worked out by hand: 4128 is 32 * 128 + 32, 2200 is 17 * 128 + 24, 2100 is 16 * 128 + 52.
const (
	objectAlgorithm = "\x2b\x06\x01\x04\x01\xa0\x20\x91\x18\x01"
	objectExt       = "\x2b\x06\x01\x04\x01\xa0\x20\x90\x34"
	objectName      = "\x55\x04\x03"
)

// wrap are the bytes of an item that holds those.
func wrap(tag byte, held ...[]byte) []byte {
	all := slices.Concat(held...)
	length := []byte{byte(len(all))}
	if len(all) >= 128 {
		length = big.NewInt(int64(len(all))).Bytes()
		length = append([]byte{0x80 + byte(len(length))}, length...)
	}
	return slices.Concat([]byte{tag}, length, all)
}

func wrapText(tag byte, s string) []byte { return wrap(tag, []byte(s)) }

func wrapUint(v uint64) []byte {
	b := new(big.Int).SetUint64(v).Bytes()
	if len(b) == 0 || b[0] >= 128 {
		b = append([]byte{0}, b...)
	}
	return wrap(2, b)
}

func wrapBits(b []byte) []byte { return wrap(3, []byte{0}, b) }

func wrapAlgorithm() []byte { return wrap(0x30, wrapText(6, objectAlgorithm)) }

func wrapName(s string) []byte {
	return wrap(0x30, wrap(0x31, wrap(0x30, wrapText(6, objectName), wrapText(12, s))))
}

func wrapTimes() []byte {
	return wrap(0x30, wrapText(0x18, "20000101000000Z"), wrapText(0x18, "99991231235959Z"))
}

// wrapExt takes any number that is not below 0.
func wrapExt(x api.Ext) []byte {
	v := uint64(x.N)
	figure := []byte{byte(v % 128)}
	for v /= 128; v > 0; v /= 128 {
		figure = append(figure, 128+byte(v%128))
	}
	slices.Reverse(figure)
	var critical []byte
	if x.Critical {
		critical = wrap(1, []byte{0xff})
	}
	return wrap(0x30, wrap(6, []byte(objectExt), figure), critical, wrap(4, x.Value))
}

func wrapExts(l []api.Ext) []byte {
	var exts [][]byte
	for _, x := range l {
		exts = append(exts, wrapExt(x))
	}
	return wrap(0xa3, wrap(0x30, exts...))
}

// wrapSigned and wrapCert write what is given, be it of those values that may be or not.
func wrapSigned(c api.Cert) []byte {
	l := [][]byte{
		wrap(0xa0, wrapUint(2)), wrapUint(c.Serial), wrapAlgorithm(), wrapName(c.Issuer), wrapTimes(), wrapName(c.Subject),
		wrap(0x30, wrapAlgorithm(), wrapBits(c.Key)),
	}
	if len(c.Exts) > 0 {
		l = append(l, wrapExts(c.Exts))
	}
	return wrap(0x30, l...)
}

func wrapCert(c api.Cert) []byte {
	return wrap(0x30, wrapSigned(c), wrapAlgorithm(), wrapBits(c.Sig))
}

// show is an item as a text: its tag, and in brackets what it holds.
func show(i api.Item, to *strings.Builder) {
	to.WriteString(hex.EncodeToString([]byte{i.Tag}))
	if i.Tag&0x20 == 0 {
		to.WriteString("[" + hex.EncodeToString(i.Body) + "]")
		return
	}
	to.WriteString("{")
	for _, kid := range i.Kids {
		show(kid, to)
	}
	to.WriteString("}")
}

// plainly is the pattern of a plain item with that body.
func plainly(tag, body string) string {
	return tag + `\[` + hex.EncodeToString([]byte(body)) + `\]`
}

const (
	anyBytes  = `((?:[0-9a-f]{2})*)`
	numberPat = `02\[(00|(?:0[1-9a-f]|[1-7][0-9a-f])(?:[0-9a-f]{2}){0,7}|00[89a-f][0-9a-f](?:[0-9a-f]{2}){0,7})\]`
	bitsPat   = `03\[00` + anyBytes + `\]`
)

var (
	algorithmPat = `30\{` + plainly("06", objectAlgorithm) + `\}`
	namePat      = `30\{31\{30\{` + plainly("06", objectName) + `0c\[` + anyBytes + `\]\}\}\}`
	timePat      = `30\{` + plainly("18", "20000101000000Z") + plainly("18", "99991231235959Z") + `\}`
	extPat       = `30\{06\[` + hex.EncodeToString([]byte(objectExt)) + `((?:[89a-f][0-9a-f])*[0-7][0-9a-f])\](01\[ff\])?04\[` + anyBytes + `\]\}`

	extForm  = regexp.MustCompile(extPat)
	certForm = regexp.MustCompile(`^30\{30\{a0\{02\[02\]\}` + numberPat + algorithmPat + namePat + timePat + namePat +
		`30\{` + algorithmPat + bitsPat + `\}(?:a3\{30\{((?:` + extPat + `)+)\}\})?\}` + algorithmPat + bitsPat + `\}$`)
)

func unhex(s string) []byte {
	b, err := hex.DecodeString(s)
	if err != nil {
		panic(err)
	}
	return b
}

// numberOf is an extension's number, by the groups of its figure; 0, if it has none.
func numberOf(figure []byte) int {
	if figure[0] == 0x80 || len(figure) > 5 {
		return 0
	}
	n := 0
	for _, b := range figure {
		n = n*128 + int(b%128)
	}
	if n > 1<<32-1 {
		return 0
	}
	return n
}

// parsed is Parse.
func parsed(b []byte) (api.Cert, []byte, api.Errno) {
	i, e := der.Decode(b)
	if e != api.OK {
		return api.Cert{}, nil, e
	}
	var s strings.Builder
	show(i, &s)
	m := certForm.FindStringSubmatch(s.String())
	if m == nil {
		return api.Cert{}, nil, api.ErrCertForm
	}
	c := api.Cert{
		Serial: new(big.Int).SetBytes(unhex(m[1])).Uint64(), Issuer: string(unhex(m[2])), Subject: string(unhex(m[3])), Key: unhex(m[4]), Sig: unhex(m[9]),
	}
	for _, x := range extForm.FindAllStringSubmatch(m[5], -1) {
		n := numberOf(unhex(x[1]))
		if n == 0 {
			return api.Cert{}, nil, api.ErrCertForm
		}
		c.Exts = append(c.Exts, api.Ext{N: n, Critical: x[2] != "", Value: unhex(x[3])})
	}
	if e := fault(c, true); e != api.OK {
		return api.Cert{}, nil, e
	}
	return c, wrapSigned(c), api.OK
}

func namedWell(s string) bool {
	return len(s) > 0 && len(s) < 65 && strings.IndexFunc(s, func(r rune) bool { return r < 32 || r >= 127 }) < 0
}

// knownNumbers are those that may be critical.
var knownNumbers = []int{1, 2, 101, 102, 103, 104, 105, 106, 107, 108, 109, 110, 111, 201, 202, 203}

// fault is what is wrong with the values of a certificate, its signature's too or not.
func fault(c api.Cert, sig bool) api.Errno {
	wrong := !namedWell(c.Issuer) || !namedWell(c.Subject) || len(c.Key) != 2017 || len(c.Exts) > 16 || sig && len(c.Sig) != 3373
	numbers := map[int]bool{}
	unknown := false
	for _, x := range c.Exts {
		wrong = wrong || x.N < 1 || x.N > 2147483647
		numbers[x.N] = true
		unknown = unknown || x.Critical && !slices.Contains(knownNumbers, x.N)
	}
	switch {
	case wrong:
		return api.ErrCertValue
	case len(numbers) < len(c.Exts):
		return api.ErrCertTwice
	case unknown:
		return api.ErrCertCritical
	}
	return api.OK
}

// written is Signed or Bytes: those bytes, unless there are too many.
func written(c api.Cert, sig bool, wrap func(api.Cert) []byte) ([]byte, api.Errno) {
	if e := fault(c, sig); e != api.OK {
		return nil, e
	}
	if b := wrap(c); len(b) <= 65536 {
		return b, api.OK
	}
	return nil, api.ErrDerLong
}

// found is the first extension with that number.
func found(c api.Cert, n int) *api.Ext {
	for k := range c.Exts {
		if c.Exts[k].N == n {
			return &c.Exts[k]
		}
	}
	return nil
}

// counted, hashed and keyed are Counter, Hash and Key of an extension with that value, as the library reads them.
func counted(value []byte) (uint32, api.Errno) {
	var v *big.Int
	rest, err := asn1.Unmarshal(value, &v)
	if err != nil || len(rest) > 0 || v.Sign() < 0 || v.BitLen() > 32 {
		return 0, api.ErrCertValue
	}
	return uint32(v.Uint64()), api.OK
}

func hashed(value []byte) ([32]byte, api.Errno) {
	var b []byte
	rest, err := asn1.Unmarshal(value, &b)
	if err != nil || len(rest) > 0 || len(b) != 32 {
		return [32]byte{}, api.ErrCertValue
	}
	return [32]byte(b), api.OK
}

func keyed(value []byte) ([]byte, api.Errno) {
	var b asn1.BitString
	rest, err := asn1.Unmarshal(value, &b)
	if err != nil || len(rest) > 0 || b.BitLength != 8*2017 {
		return nil, api.ErrCertValue
	}
	return b.Bytes, api.OK
}

// same tells whether certificates are the same ones, lists without elements being nil or not.
func same(a, b api.Cert) bool {
	return a.Serial == b.Serial && a.Issuer == b.Issuer && a.Subject == b.Subject && bytes.Equal(a.Key, b.Key) && bytes.Equal(a.Sig, b.Sig) && slices.EqualFunc(a.Exts, b.Exts, sameExt)
}

func sameExt(a, b api.Ext) bool {
	return a.N == b.N && a.Critical == b.Critical && bytes.Equal(a.Value, b.Value)
}

func clone(c api.Cert) api.Cert {
	c.Key, c.Sig, c.Exts = bytes.Clone(c.Key), bytes.Clone(c.Sig), slices.Clone(c.Exts)
	for n := range c.Exts {
		c.Exts[n].Value = bytes.Clone(c.Exts[n].Value)
	}
	return c
}

// A source gives numbers that follow no short pattern, the same ones in each run.
type source uint64

func (s *source) next() uint64 {
	*s += 0x9e3779b97f4a7c15
	v := uint64(*s)
	v = (v ^ v>>30) * 0xbf58476d1ce4e5b9
	v = (v ^ v>>27) * 0x94d049bb133111eb
	return v ^ v>>31
}

// below is a number below n.
func (s *source) below(n int) int { return int(s.next() % uint64(n)) }

// bytes are so many of any.
func (s *source) bytes(n int) []byte {
	b := make([]byte, n)
	for i := range b {
		b[i] = byte(s.next())
	}
	return b
}

func (s *source) name() string {
	b := s.bytes(1 + s.below(64))
	for i := range b {
		b[i] = 32 + b[i]%95
	}
	return string(b)
}

// cert is any one that may be, with so many extensions.
func (s *source) cert(exts int) api.Cert {
	c := api.Cert{Serial: s.next() >> s.below(64), Issuer: s.name(), Subject: s.name(), Key: s.bytes(2017), Sig: s.bytes(3373)}
	for len(c.Exts) < exts {
		x := api.Ext{N: 1 + int(s.next()>>33>>s.below(31)), Value: s.bytes([]int{0, 1, 2, 34, 127, 128, 300}[s.below(7)])}
		if s.below(2) == 0 {
			x.N, x.Critical = knownNumbers[s.below(16)], s.below(4) > 0
		}
		x.N = min(x.N, 1<<31-1)
		if found(c, x.N) == nil {
			c.Exts = append(c.Exts, x)
		}
	}
	return c
}
