package der

import (
	"bytes"

	"barbican/api"
)

const (
	// The bits of a tag: one says that the item is constructed, and those that number it are not all 1.
	bitKids = 0x20
	bitsTag = 0x1f

	// From here on a length has more than one byte: the first one tells how many are behind it, up to three.
	longer  = 0x80
	longest = 0x83

	// All that is longer than it may be is taken to be this long, so that no sum is too great for a number.
	tooLong = api.MaxDer + 1
)

func isTag(tag byte) bool { return tag&bitsTag != bitsTag }

func hasKids(tag byte) bool { return tag&bitKids != 0 }

// read is the item that b begins with, and what is behind it. Where b ends, the item has to end at the latest.
func read(b []byte, depth int) (api.Item, []byte) {
	must(depth <= api.MaxDerDeep, api.ErrDerDeep)
	must(len(b) > 0, api.ErrDerEnd)
	tag := b[0]
	must(isTag(tag), api.ErrDerTag)
	long, b := length(b[1:])
	must(long <= len(b), api.ErrDerEnd)
	held, behind := b[:long], b[long:]
	if hasKids(tag) {
		return api.Item{Tag: tag, Kids: readAll(held, depth+1)}, behind
	}
	return api.Item{Tag: tag, Body: bytes.Clone(held)}, behind
}

// readAll are the items of b, one behind the other.
func readAll(b []byte, depth int) []api.Item {
	var l []api.Item
	for len(b) > 0 {
		var i api.Item
		i, b = read(b, depth)
		l = append(l, i)
	}
	return l
}

// length is the number that b begins with, and what is behind it.
func length(b []byte) (int, []byte) {
	must(len(b) > 0, api.ErrDerEnd)
	first, b := b[0], b[1:]
	if first < longer {
		return int(first), b
	}
	must(first != longer && first <= longest, api.ErrDerLength)
	many := int(first - longer)
	must(many <= len(b), api.ErrDerEnd)
	var long int
	for _, part := range b[:many] {
		long = long<<8 | int(part)
	}
	must(b[0] != 0 && long >= longer, api.ErrDerLength)
	return long, b[many:]
}

// size is how many bytes an item has, up to tooLong. It gives up where one has no bytes.
func size(i api.Item, depth int) int {
	must(depth <= api.MaxDerDeep, api.ErrDerDeep)
	must(isTag(i.Tag), api.ErrDerTag)
	if hasKids(i.Tag) {
		must(len(i.Body) == 0, api.ErrDerValue)
	} else {
		must(len(i.Kids) == 0, api.ErrDerValue)
	}
	held := min(len(i.Body), tooLong)
	for _, kid := range i.Kids {
		held = min(held+size(kid, depth+1), tooLong)
	}
	return min(1+len(ofLength(held))+held, tooLong)
}

// write is b, and an item's bytes behind it.
func write(b []byte, i api.Item) []byte {
	var held []byte
	held = append(held, i.Body...)
	for _, kid := range i.Kids {
		held = write(held, kid)
	}
	b = append(b, i.Tag)
	b = append(b, ofLength(len(held))...)
	return append(b, held...)
}

// ofLength are a length's bytes. One that takes three and the byte ahead of them is never written, as the whole is longer than MaxDer then.
func ofLength(long int) []byte {
	switch {
	case long < longer:
		return []byte{byte(long)}
	case long < 1<<8:
		return []byte{longer + 1, byte(long)}
	default:
		return []byte{longer + 2, byte(long >> 8), byte(long)}
	}
}
