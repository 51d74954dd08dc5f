package der

import (
	"slices"

	"barbican/api"
)

// How many numbers a name has. The first one and the second make one figure together: the second is below under, unless the first one is the last that there is.
const (
	fewNumbers  = 2
	manyNumbers = 20
	lastFirst   = 2
	under       = 40

	mostFigure = 1<<32 - 1
)

// A figure stands in groups of so many bits, a byte each, in which one bit more tells that another one is behind it.
const (
	groupBits = 7
	groupMore = 1 << groupBits
)

// OID reads the numbers of an object's name.
func OID(i api.Item) ([]uint64, api.Errno) {
	b, e := bodyOf(i, tagOID)
	if e != api.OK {
		return nil, e
	}
	l, ok := readFigures(b)
	if !ok {
		return nil, api.ErrDerValue
	}
	first := min(l[0]/under, lastFirst)
	return append([]uint64{first, l[0] - first*under}, l[1:]...), api.OK
}

// OfOID is its item.
func OfOID(l []uint64) (api.Item, api.Errno) {
	l, ok := figures(l)
	if !ok {
		return api.Item{}, api.ErrDerValue
	}
	var b []byte
	for _, figure := range l {
		b = append(b, groups(figure)...)
	}
	return api.Item{Tag: tagOID, Body: b}, api.OK
}

// figures are those of a name; false, if l is none.
func figures(l []uint64) ([]uint64, bool) {
	if len(l) < fewNumbers || len(l) > manyNumbers || l[0] > lastFirst {
		return nil, false
	}
	if l[0] != lastFirst && l[1] >= under {
		return nil, false
	}
	// The sum would lose what goes beyond a number's width.
	if l[1] > mostFigure {
		return nil, false
	}
	l = append([]uint64{l[0]*under + l[1]}, l[2:]...)
	for _, figure := range l {
		if figure > mostFigure {
			return nil, false
		}
	}
	return l, true
}

// readFigures are the figures of a body; false, if there are none or too many, or if one is none.
func readFigures(b []byte) ([]uint64, bool) {
	var l []uint64
	for len(b) > 0 && len(l) < manyNumbers-1 {
		figure, behind, ok := readFigure(b)
		if !ok {
			return nil, false
		}
		l = append(l, figure)
		b = behind
	}
	return l, len(l) > 0 && len(b) == 0
}

// readFigure is the figure that b begins with, and what is behind it; false, if it doesn't end, is too great, or has more groups than it need have.
func readFigure(b []byte) (uint64, []byte, bool) {
	if b[0] == groupMore {
		return 0, nil, false
	}
	var figure uint64
	for n, group := range b {
		figure = figure<<groupBits | uint64(group&^groupMore)
		if figure > mostFigure {
			return 0, nil, false
		}
		if group < groupMore {
			return figure, b[n+1:], true
		}
	}
	return 0, nil, false
}

// groups are a figure's bytes.
func groups(figure uint64) []byte {
	b := []byte{byte(figure % groupMore)}
	for figure >>= groupBits; figure > 0; figure >>= groupBits {
		b = append(b, groupMore|byte(figure%groupMore))
	}
	slices.Reverse(b)
	return b
}
