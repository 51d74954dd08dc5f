package der_test

import (
	"math/big"
	"slices"

	"barbican/api"
)

// The chapter's words, the long way: places in one list of bytes and not pieces of it, errors handed up and not thrown, numbers of any size. What the package answers is held against these.

// A place is one in all the bytes that are decoded.
type place struct {
	all []byte
	at  int
}

// readItem reads an item up to an end.
func (p *place) readItem(end, depth int) (api.Item, api.Errno) {
	switch {
	case depth > 16:
		return api.Item{}, api.ErrDerDeep
	case p.at == end:
		return api.Item{}, api.ErrDerEnd
	case p.all[p.at]%32 == 31:
		return api.Item{}, api.ErrDerTag
	}
	i := api.Item{Tag: p.all[p.at]}
	p.at++
	long, e := p.readLength(end)
	if e != api.OK {
		return api.Item{}, e
	}
	if end-p.at < long {
		return api.Item{}, api.ErrDerEnd
	}
	end = p.at + long
	if i.Tag/32%2 == 0 {
		i.Body = append(i.Body, p.all[p.at:end]...)
		p.at = end
		return i, api.OK
	}
	for p.at < end {
		kid, e := p.readItem(end, depth+1)
		if e != api.OK {
			return api.Item{}, e
		}
		i.Kids = append(i.Kids, kid)
	}
	return i, api.OK
}

func (p *place) readLength(end int) (int, api.Errno) {
	if p.at == end {
		return 0, api.ErrDerEnd
	}
	first := int(p.all[p.at])
	p.at++
	if first < 128 {
		return first, api.OK
	}
	if first == 0x80 || first > 0x83 {
		return 0, api.ErrDerLength
	}
	many := first - 0x80
	if end-p.at < many {
		return 0, api.ErrDerEnd
	}
	long := 0
	for _, b := range p.all[p.at : p.at+many] {
		long = long*256 + int(b)
	}
	if long < []int{0, 128, 256, 65536}[many] {
		return 0, api.ErrDerLength
	}
	p.at += many
	return long, api.OK
}

// decoded is Decode.
func decoded(b []byte) (api.Item, api.Errno) {
	if len(b) > 65536 {
		return api.Item{}, api.ErrDerLong
	}
	p := place{all: b}
	i, e := p.readItem(len(b), 1)
	if e == api.OK && p.at < len(b) {
		return api.Item{}, api.ErrDerMore
	}
	return i, e
}

// fault is the first one of an item and what is within it.
func fault(i api.Item, depth int) api.Errno {
	constructed := i.Tag/32%2 == 1
	switch {
	case depth > 16:
		return api.ErrDerDeep
	case i.Tag%32 == 31:
		return api.ErrDerTag
	case constructed && len(i.Body) > 0, !constructed && len(i.Kids) > 0:
		return api.ErrDerValue
	}
	for _, kid := range i.Kids {
		if e := fault(kid, depth+1); e != api.OK {
			return e
		}
	}
	return api.OK
}

// packed are the bytes of an item, which has no fault.
func packed(i api.Item) []byte {
	held := slices.Clone(i.Body)
	for _, kid := range i.Kids {
		held = append(held, packed(kid)...)
	}
	return slices.Concat([]byte{i.Tag}, lengthOf(len(held)), held)
}

// lengthOf are the bytes of a length, by the number of digits that it has.
func lengthOf(n int) []byte {
	if n < 128 {
		return []byte{byte(n)}
	}
	b := big.NewInt(int64(n)).Bytes()
	return append([]byte{0x80 + byte(len(b))}, b...)
}

// encoded is Encode.
func encoded(i api.Item) ([]byte, api.Errno) {
	if e := fault(i, 1); e != api.OK {
		return nil, e
	}
	if b := packed(i); len(b) <= 65536 {
		return b, api.OK
	}
	return nil, api.ErrDerLong
}

// same tells whether items are the same ones, lists without elements being nil or not.
func same(a, b api.Item) bool {
	return a.Tag == b.Tag && slices.Equal(a.Body, b.Body) && slices.EqualFunc(a.Kids, b.Kids, same)
}

// none tells whether an item is the zero value.
func none(i api.Item) bool { return i.Tag == 0 && i.Body == nil && i.Kids == nil }

// number is Uint.
func number(i api.Item) (uint64, api.Errno) {
	if i.Tag != 2 {
		return 0, api.ErrDerTag
	}
	v := new(big.Int).SetBytes(i.Body)
	if len(i.Kids) > 0 || len(i.Body) == 0 || i.Body[0] >= 128 || !v.IsUint64() {
		return 0, api.ErrDerValue
	}
	// The shortest form that isn't below 0 has a bit more than the number.
	if len(i.Body) != v.BitLen()/8+1 {
		return 0, api.ErrDerValue
	}
	return v.Uint64(), api.OK
}

// figuresOf are the figures of a name, as numbers of any size; nil, if it is none.
func figuresOf(l []uint64) []*big.Int {
	if len(l) < 2 || len(l) > 20 || l[0] > 2 || l[0] < 2 && l[1] > 39 {
		return nil
	}
	f := []*big.Int{new(big.Int).Add(big.NewInt(int64(40*l[0])), new(big.Int).SetUint64(l[1]))}
	for _, v := range l[2:] {
		f = append(f, new(big.Int).SetUint64(v))
	}
	for _, v := range f {
		if v.BitLen() > 32 {
			return nil
		}
	}
	return f
}

// nameBody is the body of a name's item, by the digits of its figures to the base 128; nil, if there is none.
func nameBody(l []uint64) []byte {
	var b []byte
	for _, v := range figuresOf(l) {
		digits := []byte{byte(v.Uint64() % 128)}
		for rest := v.Uint64() / 128; rest > 0; rest /= 128 {
			digits = append(digits, byte(rest%128)+128)
		}
		slices.Reverse(digits)
		b = append(b, digits...)
	}
	return b
}

// nameOf is OID: the name that the body's figures would be of, if it is that name's body.
func nameOf(i api.Item) ([]uint64, api.Errno) {
	if i.Tag != 6 {
		return nil, api.ErrDerTag
	}
	if len(i.Kids) > 0 {
		return nil, api.ErrDerValue
	}
	var l []uint64
	v := new(big.Int)
	for _, b := range i.Body {
		v.Add(v.Mul(v, big.NewInt(128)), big.NewInt(int64(b%128)))
		if b >= 128 {
			continue
		}
		if v.BitLen() > 64 {
			return nil, api.ErrDerValue
		}
		l = append(l, v.Uint64())
		v = new(big.Int)
	}
	if len(l) == 0 {
		return nil, api.ErrDerValue
	}
	first := l[0]
	switch {
	case first < 40:
		l = append([]uint64{0, first}, l[1:]...)
	case first < 80:
		l = append([]uint64{1, first - 40}, l[1:]...)
	default:
		l = append([]uint64{2, first - 80}, l[1:]...)
	}
	if b := nameBody(l); b == nil || !slices.Equal(b, i.Body) {
		return nil, api.ErrDerValue
	}
	return l, api.OK
}

// A source gives numbers that follow no short pattern, the same ones in each run.
type source uint64

func (s *source) next() uint64 {
	*s += 0x9e3779b97f4a7c15
	v := uint64(*s)
	v = (v ^ v>>30) * 0xbf58476d1ce4e5b9
	v = (v ^ v>>27) * 0x94d049bb133111eb
	return v ^ v>>31
}

// below is a number below n.
func (s *source) below(n int) int { return int(s.next() % uint64(n)) }

// bytes are so many of any.
func (s *source) bytes(n int) []byte {
	b := make([]byte, n)
	for i := range b {
		b[i] = byte(s.next())
	}
	return b
}

// item is any one that has bytes, at most so deep.
func (s *source) item(deep int) api.Item {
	if deep == 1 || s.below(3) == 0 {
		tag := byte(s.below(31)) | byte(s.below(4))<<6
		return api.Item{Tag: tag, Body: s.bytes([]int{0, 1, 2, 5, 126, 127, 128, 129, 254, 255, 256, 257, s.below(500)}[s.below(13)])}
	}
	i := api.Item{Tag: byte(s.below(31)) | 0x20 | byte(s.below(4))<<6}
	for range s.below(5) {
		i.Kids = append(i.Kids, s.item(deep-1))
	}
	return i
}
