// Package octets is layer 1: numbers in lists of bytes, pieces of them, sums, texts.
package octets

import (
	"bytes"

	"barbican/api"
)

const (
	polynomial = 0xEDB88320 // of the CRC-32, its bits mirrored
	digits     = "0123456789abcdef"
)

// Get is the number of the size bytes of b from the place at on.
func Get(b []byte, at, size int, big bool) (uint64, api.Errno) {
	if e := checkPlace(b, at, size); e != api.OK {
		return 0, e
	}
	var v uint64
	for i := range size {
		v = v<<8 | uint64(b[placeOf(at, size, i, big)])
	}
	return v, api.OK
}

// Put is b with v in the size bytes from the place at on.
func Put(b []byte, at, size int, big bool, v uint64) ([]byte, api.Errno) {
	if e := checkPlace(b, at, size); e != api.OK {
		return nil, e
	}
	if !hasRoom(v, 8*size) {
		return nil, api.ErrOctetsRange
	}
	out := bytes.Clone(b)
	for i := range size {
		out[placeOf(at, size, i, big)] = byte(v >> (8 * (size - 1 - i)))
	}
	return out, api.OK
}

// checkPlace tells why a number of size bytes can't stand at a place of b.
func checkPlace(b []byte, at, size int) api.Errno {
	if size != 1 && size != 2 && size != 4 && size != 8 {
		return api.ErrArg
	}
	// The end is not at+size, which an at near the greatest int would wrap.
	if at < 0 || at > len(b)-size {
		return api.ErrOctetsEnd
	}
	return api.OK
}

// placeOf is where a number's byte i stands, counted from its highest byte on.
func placeOf(at, size, i int, big bool) int {
	if big {
		return at + i
	}
	return at + size - 1 - i
}

// hasRoom tells whether v is below 2^bits. A shift by all 64 bits leaves 0, so that each v has room there.
func hasRoom(v uint64, bits int) bool {
	return v>>bits == 0
}

// Fits tells whether from and size together, as whole numbers of any size, are at most limit.
func Fits(from, size, limit uint64) bool {
	// from+size could wrap; limit-from can't, where it is asked.
	return from <= limit && size <= limit-from
}

// Up is the least multiple of a, a power of two, from v on.
func Up(v, a uint64) (uint64, api.Errno) {
	if a == 0 || a&(a-1) != 0 {
		return 0, api.ErrArg
	}
	up := (v + (a - 1)) &^ (a - 1)
	// A sum that went beyond 64 bits is less than a, so its multiple is 0, and v was not.
	if up < v {
		return 0, api.ErrOctetsRange
	}
	return up, api.OK
}

// Cut is the size bytes of b from a place on.
func Cut(b []byte, from, size uint64) ([]byte, api.Errno) {
	if !Fits(from, size, uint64(len(b))) {
		return nil, api.ErrOctetsEnd
	}
	return bytes.Clone(b[from : from+size]), api.OK
}

// CRC is the CRC-32 of what sum is the CRC-32 of, and b behind it.
func CRC(sum uint32, b []byte) uint32 {
	register := ^sum
	for _, x := range b {
		register ^= uint32(x)
		for range 8 {
			out := register & 1
			register >>= 1
			if out == 1 {
				register ^= polynomial
			}
		}
	}
	return ^register
}

// Sign is what v's lowest bits mean as a number with a sign.
func Sign(v uint64, bits int) (int64, api.Errno) {
	if !isWidth(bits) {
		return 0, api.ErrArg
	}
	if !hasRoom(v, bits) {
		return 0, api.ErrOctetsRange
	}
	if v>>(bits-1) == 1 {
		// For 64 bits 2^bits wraps to 0, and the conversion alone takes it away.
		return int64(v - uint64(1)<<bits), api.OK
	}
	return int64(v), api.OK
}

// Narrow is v as a number without a sign that has so many bits.
func Narrow(v int64, bits int) (uint64, api.Errno) {
	if !isWidth(bits) {
		return 0, api.ErrArg
	}
	least := int64(-1) << (bits - 1)
	greatest := -(least + 1)
	if v < least || v > greatest {
		return 0, api.ErrOctetsRange
	}
	if v < 0 {
		// For 64 bits 2^bits wraps to 0, and the conversion alone adds it.
		return uint64(v) + uint64(1)<<bits, api.OK
	}
	return uint64(v), api.OK
}

// isWidth tells whether a number can have so many bits.
func isWidth(bits int) bool {
	return bits >= 1 && bits <= 64
}

// Hex is b as a text, two digits a byte.
func Hex(b []byte) string {
	text := make([]byte, 0, 2*len(b))
	for _, x := range b {
		text = append(text, digits[x>>4], digits[x&15])
	}
	return string(text)
}

// FromHex is the bytes whose Hex s is.
func FromHex(s string) ([]byte, api.Errno) {
	if len(s)%2 != 0 {
		return nil, api.ErrOctetsForm
	}
	b := make([]byte, 0, len(s)/2)
	for i := 0; i < len(s); i += 2 {
		high, isHigh := fromDigit(s[i])
		low, isLow := fromDigit(s[i+1])
		if !isHigh || !isLow {
			return nil, api.ErrOctetsForm
		}
		b = append(b, high<<4|low)
	}
	return b, api.OK
}

// fromDigit is the number of a digit, and whether it is one.
func fromDigit(c byte) (byte, bool) {
	switch {
	case c >= '0' && c <= '9':
		return c - '0', true
	case c >= 'a' && c <= 'f':
		return c - 'a' + 10, true
	}
	return 0, false
}
