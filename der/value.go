package der

import (
	"bytes"
	"math/bits"

	"barbican/api"
)

// The tags of the values that are read here.
const (
	tagBool = 0x01
	tagUint = 0x02
	tagBits = 0x03
	tagOID  = 0x06
)

const (
	no  = 0x00
	yes = 0xff

	// A number's first bit says that it is below 0.
	below = 0x80

	// How many bytes a number has at most, beside one that keeps its first bit 0.
	uintBytes = 8
)

// bodyOf is what an item with that tag holds.
func bodyOf(i api.Item, tag byte) ([]byte, api.Errno) {
	if i.Tag != tag {
		return nil, api.ErrDerTag
	}
	if len(i.Kids) > 0 {
		return nil, api.ErrDerValue
	}
	return i.Body, api.OK
}

// Uint reads a number.
func Uint(i api.Item) (uint64, api.Errno) {
	b, e := bodyOf(i, tagUint)
	if e != api.OK {
		return 0, e
	}
	if len(b) == 0 || b[0] >= below {
		return 0, api.ErrDerValue
	}
	if b[0] == 0 && len(b) > 1 {
		b = b[1:]
		if b[0] < below {
			return 0, api.ErrDerValue
		}
	}
	if len(b) > uintBytes {
		return 0, api.ErrDerValue
	}
	var v uint64
	for _, part := range b {
		v = v<<8 | uint64(part)
	}
	return v, api.OK
}

// OfUint is a number's item.
func OfUint(v uint64) api.Item {
	// Its bits, and one ahead of them that is 0.
	b := make([]byte, bits.Len64(v)/8+1)
	for i := len(b) - 1; i >= 0; i-- {
		b[i] = byte(v)
		v >>= 8
	}
	return api.Item{Tag: tagUint, Body: b}
}

// Bool reads a bool.
func Bool(i api.Item) (bool, api.Errno) {
	b, e := bodyOf(i, tagBool)
	if e != api.OK {
		return false, e
	}
	if len(b) != 1 || b[0] != no && b[0] != yes {
		return false, api.ErrDerValue
	}
	return b[0] == yes, api.OK
}

// OfBool is a bool's item.
func OfBool(v bool) api.Item {
	if v {
		return api.Item{Tag: tagBool, Body: []byte{yes}}
	}
	return api.Item{Tag: tagBool, Body: []byte{no}}
}

// Bits reads whole bytes of a bit string.
func Bits(i api.Item) ([]byte, api.Errno) {
	b, e := bodyOf(i, tagBits)
	if e != api.OK {
		return nil, e
	}
	// The first byte tells how many bits of the last one don't count.
	if len(b) == 0 || b[0] != 0 {
		return nil, api.ErrDerValue
	}
	return bytes.Clone(b[1:]), api.OK
}

// OfBits is their item.
func OfBits(b []byte) api.Item {
	return api.Item{Tag: tagBits, Body: append([]byte{0}, b...)}
}
