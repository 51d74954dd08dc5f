package der_test

import (
	"bytes"
	"slices"
	"testing"

	"barbican/api"
	"barbican/der"
)

// decodeIs looks at Decode, and at Encode of what it tells.
func decodeIs(t *testing.T, b []byte, want api.Errno) {
	t.Helper()
	i, e := der.Decode(b)
	model, modelError := decoded(b)
	short := b[:min(len(b), 40)]
	if e != want || e != modelError {
		t.Fatalf("%d bytes, %x: %v, not %v (%v)", len(b), short, e, want, modelError)
	}
	if e != api.OK {
		if !none(i) {
			t.Fatalf("%d bytes, %x: beside %v %v", len(b), short, e, i)
		}
		return
	}
	if !same(i, model) {
		t.Fatalf("%d bytes, %x: %v, not %v", len(b), short, i, model)
	}
	if back, e := der.Encode(i); e != api.OK || !bytes.Equal(back, b) {
		t.Fatalf("%d bytes, %x: back as %x, %v", len(b), short, back, e)
	}
}

// encodeIs looks at Encode, and at Decode of what it tells.
func encodeIs(t *testing.T, i api.Item, want api.Errno) {
	t.Helper()
	b, e := der.Encode(i)
	model, modelError := encoded(i)
	if e != want || e != modelError {
		t.Fatalf("%x: %v, not %v (%v)", i.Tag, e, want, modelError)
	}
	if e != api.OK {
		if len(b) != 0 {
			t.Fatalf("%x: beside %v %d bytes", i.Tag, e, len(b))
		}
		return
	}
	if !bytes.Equal(b, model) {
		t.Fatalf("%v: %x, not %x", i, b, model)
	}
	if back, e := der.Decode(b); e != api.OK || !same(back, i) {
		t.Fatalf("%v: back as %v, %v", i, back, e)
	}
}

// plain is the bytes of an item with that tag, the length's as they are given, and so many bytes.
func plain(tag byte, length []byte, n int) []byte {
	return slices.Concat([]byte{tag}, length, bytes.Repeat([]byte{0xa5}, n))
}

// around are bytes within constructed items, so many within one another.
func around(b []byte, times int) []byte {
	for range times {
		b = slices.Concat([]byte{0x30}, lengthOf(len(b)), b)
	}
	return b
}

// P12.1: D1.

func TestDecodeNothing(t *testing.T) {
	decodeIs(t, nil, api.ErrDerEnd)
	decodeIs(t, []byte{}, api.ErrDerEnd)
}

func TestDecodeTags(t *testing.T) {
	for tag := range 256 {
		want := api.OK
		if tag&0x1f == 0x1f {
			want = api.ErrDerTag
		}
		decodeIs(t, []byte{byte(tag), 0}, want)
		decodeIs(t, around([]byte{byte(tag), 0}, 1), want)
		decodeIs(t, []byte{0x30, 4, 5, 0, byte(tag), 0}, want)
		// A tag that is none is told ahead of a length that isn't there or is none.
		for _, b := range [][]byte{{byte(tag)}, {byte(tag), 0x80}, {byte(tag), 0x82, 0}, {byte(tag), 9}} {
			_, e := der.Decode(b)
			if (e == api.ErrDerTag) != (want == api.ErrDerTag) || e == api.OK {
				t.Errorf("%x: %v", b, e)
			}
		}
		i, e := der.Decode([]byte{byte(tag), 2, 5, 0})
		if want != api.OK {
			continue
		}
		if constructed := tag&0x20 != 0; e != api.OK || constructed != (len(i.Kids) == 1) || constructed != (len(i.Body) == 0) {
			t.Errorf("%x: %v, %v", tag, i, e)
		}
	}
}

// All lists of some bytes, as the chapter's words have it.
func TestDecodeShortLists(t *testing.T) {
	var look func(b []byte, of []byte, more int)
	look = func(b []byte, of []byte, more int) {
		_, want := decoded(b)
		decodeIs(t, b, want)
		if more == 0 {
			return
		}
		for _, x := range of {
			look(append(slices.Clone(b), x), of, more-1)
		}
	}
	var all []byte
	for x := range 256 {
		all = append(all, byte(x))
	}
	look(nil, all, 2)
	look(nil, []byte{0, 1, 2, 3, 4, 0x1f, 0x20, 0x30, 0x3f, 0x7f, 0x80, 0x81, 0x82, 0x83, 0x84, 0xff}, 4)
	look(nil, []byte{0, 1, 2, 4, 0x30, 0x81}, 7)
	look(nil, []byte{0x30, 0, 2}, 10)
}

// Each length in each form: its shortest one, longer ones, and such as have too few bytes behind them.
func TestDecodeLengths(t *testing.T) {
	for _, n := range []int{0, 1, 2, 126, 127, 128, 129, 254, 255, 256, 257, 1000, 32767, 32768, 65531, 65532} {
		shortest := lengthOf(n)
		for _, tag := range []byte{4, 0x80} {
			b := plain(tag, shortest, n)
			decodeIs(t, b, api.OK)
			decodeIs(t, append(slices.Clone(b), 0), map[bool]api.Errno{false: api.ErrDerMore, true: api.ErrDerLong}[len(b) == 65536])
			if n > 0 {
				decodeIs(t, b[:len(b)-1], api.ErrDerEnd)
				decodeIs(t, b[:1+len(shortest)], api.ErrDerEnd)
			}
			for missing := range len(shortest) {
				decodeIs(t, b[:1+missing], api.ErrDerEnd)
			}
		}
		for many := 1; many <= 3; many++ {
			long := []byte{0x80 + byte(many), byte(n >> 16), byte(n >> 8), byte(n)}
			long = append(long[:1], long[4-many:]...)
			if bytes.Equal(long, shortest) || n >= 1<<(8*many) || len(long)+1+n > 65536 {
				continue
			}
			decodeIs(t, plain(4, long, n), api.ErrDerLength)
			decodeIs(t, plain(4, long, 0), api.ErrDerLength)
			decodeIs(t, plain(4, long[:many], 0), api.ErrDerEnd)
			decodeIs(t, around(plain(4, long, 0), 1), api.ErrDerLength)
		}
	}
	// What takes three bytes is never all there.
	for _, n := range []int{65536, 65537, 1<<24 - 1} {
		decodeIs(t, plain(4, lengthOf(n), 0), api.ErrDerEnd)
		decodeIs(t, plain(4, lengthOf(n), 65531), api.ErrDerEnd)
		decodeIs(t, plain(4, lengthOf(n), 65532), api.ErrDerLong)
	}
}

// The first byte of a length: one that is none is told ahead of bytes that are missing.
func TestDecodeFirstOfLength(t *testing.T) {
	for first := range 256 {
		for behind := range 4 {
			b := append([]byte{4, byte(first)}, make([]byte, behind)...)
			want := api.ErrDerEnd
			switch {
			case first == 0x80 || first > 0x83:
				want = api.ErrDerLength
			case first > 0x80 && behind >= first-0x80:
				want = api.ErrDerLength
			case first < 0x80 && first == behind:
				want = api.OK
			case first < 0x80 && first < behind:
				want = api.ErrDerMore
			}
			decodeIs(t, b, want)
		}
	}
}

// Each list that is cut ends too early, and each that has more has too much.
func TestDecodeCut(t *testing.T) {
	s := source(1)
	for range 60 {
		b := packed(s.item(4))
		decodeIs(t, b, api.OK)
		for n := range b {
			if n < 40 || n > len(b)-5 {
				decodeIs(t, b[:n], api.ErrDerEnd)
			}
		}
		for x := range 256 {
			decodeIs(t, append(slices.Clone(b), byte(x)), api.ErrDerMore)
		}
		decodeIs(t, slices.Concat(b, b), api.ErrDerMore)
	}
}

// An item ends where what it is within ends, whatever is behind that.
func TestDecodeEndsWithin(t *testing.T) {
	for _, c := range []struct {
		b []byte
		e api.Errno
	}{
		{[]byte{0x30, 1, 4, 0}, api.ErrDerEnd},
		{[]byte{0x30, 3, 4, 2, 0, 0}, api.ErrDerEnd},
		{[]byte{0x30, 4, 0x30, 1, 4, 0}, api.ErrDerEnd},
		{[]byte{0x30, 5, 0x30, 1, 4, 4, 0}, api.ErrDerEnd},
		{[]byte{0x30, 6, 0x30, 2, 4, 1, 4, 0}, api.ErrDerEnd},
		{slices.Concat([]byte{0x30, 2, 4, 0x81}, make([]byte, 200)), api.ErrDerEnd},
		{slices.Concat([]byte{0x30, 3, 4, 0x82, 1}, make([]byte, 300)), api.ErrDerEnd},
		{slices.Concat([]byte{0x30, 3, 4, 0x81, 0x80}, make([]byte, 128)), api.ErrDerEnd},
		{[]byte{0x30, 4, 4, 0, 4, 0}, api.OK},
		{[]byte{0x30, 3, 4, 0, 4, 0}, api.ErrDerEnd},
		{[]byte{0x30, 2, 4, 0, 4, 0}, api.ErrDerMore},
		{[]byte{0x30, 0, 4, 0}, api.ErrDerMore},
	} {
		decodeIs(t, c.b, c.e)
	}
}

func TestDecodeDeep(t *testing.T) {
	for times := range 20 {
		for _, c := range []struct {
			inner []byte
			e     api.Errno
		}{
			{[]byte{4, 0}, api.OK}, {[]byte{4, 1, 7}, api.OK}, {[]byte{0x30, 0}, api.OK}, {[]byte{0x30}, api.ErrDerEnd}, {[]byte{0x1f}, api.ErrDerTag},
			{[]byte{0x3f, 0}, api.ErrDerTag}, {[]byte{4, 0x80}, api.ErrDerLength}, {[]byte{4, 0x81, 1, 0}, api.ErrDerLength}, {[]byte{4, 9}, api.ErrDerEnd},
		} {
			want := c.e
			if times >= 16 {
				want = api.ErrDerDeep
			}
			decodeIs(t, around(c.inner, times), want)
		}
		// Of items that are within one another and the innermost of which holds nothing, there may be 16.
		want := api.OK
		if times >= 16 {
			want = api.ErrDerDeep
		}
		decodeIs(t, around(nil, times+1), want)
	}
}

// Of several faults the one that comes first in the bytes is told.
func TestDecodeOrder(t *testing.T) {
	deep := around([]byte{4, 0}, 16)
	for _, c := range []struct {
		first []byte
		e     api.Errno
	}{
		{[]byte{0x1f, 0}, api.ErrDerTag}, {[]byte{4, 0x80}, api.ErrDerLength}, {[]byte{4, 0x81, 9}, api.ErrDerLength}, {deep, api.ErrDerDeep}, {[]byte{4, 0x7f}, api.ErrDerEnd},
		{[]byte{0x30, 1, 4}, api.ErrDerEnd}, {[]byte{0x30, 2, 0x1f, 0}, api.ErrDerTag},
	} {
		for _, second := range [][]byte{{0x1f, 0}, {4, 0x80}, {4, 0x81, 9}, deep, {4, 9}, {4}} {
			decodeIs(t, around(slices.Concat(c.first, second), 1), c.e)
			decodeIs(t, around(slices.Concat([]byte{2, 1, 0}, c.first, second), 1), c.e)
			// Bytes behind the outermost item are told last.
			decodeIs(t, append(around(slices.Concat(c.first, second), 1), 0), c.e)
			// So is what ends behind the outermost one's bytes, told first.
			whole := around(slices.Concat(c.first, second), 1)
			decodeIs(t, whole[:len(whole)-1], api.ErrDerEnd)
		}
	}
}

func TestDecodeLong(t *testing.T) {
	decodeIs(t, plain(4, lengthOf(65532), 65532), api.OK)
	decodeIs(t, around(plain(4, lengthOf(65528), 65528), 1), api.OK)
	decodeIs(t, around(plain(4, lengthOf(65529), 65529), 1), api.ErrDerLong)
	many := bytes.Repeat([]byte{5, 0}, 32766)
	decodeIs(t, around(many, 1), api.OK)
	for _, n := range []int{65537, 65538, 1 << 17, 1 << 20} {
		for _, x := range []byte{0, 4, 0x1f, 0x30, 0x80, 0xff} {
			decodeIs(t, bytes.Repeat([]byte{x}, n), api.ErrDerLong)
		}
	}
	for _, x := range []byte{0, 4, 0x1f, 0x30, 0x80, 0xff} {
		_, e := der.Decode(bytes.Repeat([]byte{x}, 65536))
		if e == api.ErrDerLong || e == api.OK {
			t.Error(x, e)
		}
	}
}

// Good lists that were changed in one place or two, and any bytes.
func TestDecodeChanged(t *testing.T) {
	s := source(2)
	count := map[api.Errno]int{}
	look := func(b []byte) {
		_, want := decoded(b)
		decodeIs(t, b, want)
		count[want]++
	}
	for range 3000 {
		b := packed(s.item(1 + s.below(6)))
		for range 3 {
			at := s.below(min(len(b), 30))
			switch s.below(4) {
			case 0:
				b[at] = byte(s.next())
			case 1:
				b[at]++
			case 2:
				b = slices.Delete(b, at, at+1)
			default:
				b = slices.Insert(b, at, []byte{0, 4, 0x30, 0x80, 0x81, 0x82, 0x83, 0x1f}[s.below(8)])
			}
			look(b)
			if len(b) == 0 {
				break
			}
		}
	}
	for range 20000 {
		b := s.bytes(s.below(30))
		for n := range b {
			if s.below(2) == 0 {
				b[n] = []byte{0, 1, 2, 4, 6, 0x20, 0x30, 0x81, 0x82}[s.below(9)]
			}
		}
		look(b)
	}
	for _, e := range []api.Errno{api.OK, api.ErrDerEnd, api.ErrDerTag, api.ErrDerLength, api.ErrDerMore} {
		if count[e] < 100 {
			t.Error(e, count[e])
		}
	}
}

// P12.1: D2.

// places are all the items of one, itself first, an item ahead of its kids; and the depth that each is at.
func places(i *api.Item, depth int) ([]*api.Item, []int) {
	l, depths := []*api.Item{i}, []int{depth}
	for n := range i.Kids {
		more, moreDepths := places(&i.Kids[n], depth+1)
		l, depths = append(l, more...), append(depths, moreDepths...)
	}
	return l, depths
}

func clone(i api.Item) api.Item {
	kids := i.Kids
	i.Body, i.Kids = slices.Clone(i.Body), nil
	for _, kid := range kids {
		i.Kids = append(i.Kids, clone(kid))
	}
	return i
}

func TestEncode(t *testing.T) {
	s := source(3)
	for range 2000 {
		encodeIs(t, s.item(1+s.below(8)), api.OK)
	}
	for tag := range 256 {
		want := api.OK
		if tag&0x1f == 0x1f {
			want = api.ErrDerTag
		}
		encodeIs(t, api.Item{Tag: byte(tag)}, want)
		encodeIs(t, api.Item{Tag: 0x30, Kids: []api.Item{{Tag: 5}, {Tag: byte(tag)}}}, want)
	}
	for _, n := range []int{0, 1, 126, 127, 128, 129, 255, 256, 257, 65532} {
		encodeIs(t, api.Item{Tag: 4, Body: s.bytes(n)}, api.OK)
	}
	// Kids that make each of these lengths.
	for n := range 300 {
		encodeIs(t, api.Item{Tag: 0xa3, Kids: []api.Item{{Tag: 4, Body: s.bytes(min(n, 127))}, {Tag: 0x30, Kids: make([]api.Item, n/2)}}}, api.OK)
	}
}

// Each kind of fault at each item, and two of them: the one that comes first is told.
func TestEncodeFaults(t *testing.T) {
	s := source(4)
	faults := []struct {
		set func(i *api.Item)
		e   api.Errno
	}{
		{func(i *api.Item) { i.Tag |= 0x1f }, api.ErrDerTag},
		{func(i *api.Item) { i.Tag, i.Body, i.Kids = 0x30, []byte{0}, nil }, api.ErrDerValue},
		{func(i *api.Item) { i.Tag, i.Body = i.Tag|0x20, []byte{1, 2} }, api.ErrDerValue},
		{func(i *api.Item) { i.Tag, i.Kids = i.Tag&^0x20, []api.Item{{Tag: 5}} }, api.ErrDerValue},
		{func(i *api.Item) { i.Tag, i.Body, i.Kids = 4, nil, []api.Item{{Tag: 0x1f}} }, api.ErrDerValue},
		{func(i *api.Item) { i.Tag, i.Body, i.Kids = 0x1f, nil, []api.Item{{Tag: 5}} }, api.ErrDerTag},
		{func(i *api.Item) { i.Tag, i.Body, i.Kids = 0x3f, []byte{1}, []api.Item{{Tag: 5}} }, api.ErrDerTag},
	}
	for range 40 {
		good := s.item(4)
		all, _ := places(&good, 1)
		for n := range all {
			for _, f := range faults {
				one := clone(good)
				l, _ := places(&one, 1)
				f.set(l[n])
				encodeIs(t, one, f.e)
				// A second one that comes behind it is not told.
				for _, g := range faults {
					two := clone(one)
					if l, _ := places(&two, 1); len(l) > n+1 {
						g.set(l[n+1+s.below(len(l)-n-1)])
						encodeIs(t, two, f.e)
					}
				}
			}
		}
	}
}

// deepItem is an item that is within so many others.
func deepItem(inner api.Item, times int) api.Item {
	for range times {
		inner = api.Item{Tag: 0x30, Kids: []api.Item{inner}}
	}
	return inner
}

func TestEncodeDeep(t *testing.T) {
	bad := []struct {
		i api.Item
		e api.Errno
	}{
		{api.Item{Tag: 4}, api.OK}, {api.Item{Tag: 0x30}, api.OK}, {api.Item{Tag: 0x1f}, api.ErrDerTag}, {api.Item{Tag: 0x30, Body: []byte{1}}, api.ErrDerValue},
		{api.Item{Tag: 4, Kids: []api.Item{{Tag: 4}}}, api.ErrDerValue},
	}
	for times := range 20 {
		for _, c := range bad {
			want := c.e
			if times >= 16 {
				want = api.ErrDerDeep
			}
			encodeIs(t, deepItem(c.i, times), want)
			// A fault of an item ahead of what is too deep is told, and one behind it is not.
			two := api.Item{Tag: 0x30, Kids: []api.Item{{Tag: 0x1f}, deepItem(c.i, times)}}
			encodeIs(t, two, api.ErrDerTag)
			slices.Reverse(two.Kids)
			if want == api.OK {
				want = api.ErrDerTag
			}
			if times == 15 {
				want = api.ErrDerDeep
			}
			encodeIs(t, two, want)
		}
	}
	// An item that is within itself has no end, but is too deep.
	self := make([]api.Item, 3)
	self[0], self[1], self[2] = api.Item{Tag: 5}, api.Item{Tag: 0x30, Kids: self}, api.Item{Tag: 0x1f}
	if b, e := der.Encode(self[1]); len(b) != 0 || e != api.ErrDerDeep {
		t.Error(len(b), e)
	}
}

func TestEncodeLong(t *testing.T) {
	body := func(n int) api.Item { return api.Item{Tag: 4, Body: bytes.Repeat([]byte{7}, n)} }
	within := func(kids ...api.Item) api.Item { return api.Item{Tag: 0x30, Kids: kids} }
	for _, c := range []struct {
		i    api.Item
		long int
	}{
		{body(65531), 65535}, {body(65532), 65536}, {body(65533), 65537}, {body(65535), 65539}, {body(65536), 65541}, {body(1 << 20), 1<<20 + 5}, {body(1<<24 + 1), 1<<24 + 7},
		{within(body(65528)), 65536}, {within(body(65529)), 65537}, {within(body(65532)), 65541},
		{within(body(30000), body(35524)), 65536}, {within(body(30000), body(35525)), 65537},
		{within(body(127), body(65399)), 65536}, {within(body(128), body(65399)), 65538},
		{within(slices.Repeat([]api.Item{{Tag: 5}}, 32766)...), 65536}, {within(slices.Repeat([]api.Item{{Tag: 5}}, 32767)...), 65538}, {within(slices.Repeat([]api.Item{{Tag: 5}}, 1<<18)...), 1<<19 + 5},
		{deepItem(body(65472), 15), 65536}, {deepItem(body(65473), 15), 65537}, {within(within(body(65000)), within(body(600))), 65621},
	} {
		if n := len(packed(c.i)); n != c.long {
			t.Fatal("the test's own number:", n, c.long)
		}
		want := api.OK
		if c.long > 65536 {
			want = api.ErrDerLong
		}
		encodeIs(t, c.i, want)
		if len(c.i.Kids) == 0 {
			continue
		}
		// Whatever is wrong with an item is told ahead of that, at the end too.
		for _, bad := range []api.Item{{Tag: 0x1f}, {Tag: 0x30, Body: []byte{1}}, {Tag: 4, Kids: []api.Item{{}}}, deepItem(api.Item{}, 15)} {
			i := within(append(slices.Clone(c.i.Kids), bad)...)
			if e := fault(i, 1); e == api.OK {
				t.Fatal("no fault")
			} else {
				encodeIs(t, i, e)
			}
		}
	}
	// The same bytes at many places are so many bytes.
	much := body(1 << 20)
	encodeIs(t, within(much, much, much, much), api.ErrDerLong)
}

// P12.2, and rule 6: lists without elements, nil or not.
func TestBack(t *testing.T) {
	for _, i := range []api.Item{{Tag: 4}, {Tag: 4, Body: []byte{}}, {Tag: 4, Kids: []api.Item{}}, {Tag: 4, Body: []byte{}, Kids: []api.Item{}}, {Tag: 4, Body: []byte{1}, Kids: []api.Item{}}} {
		encodeIs(t, i, api.OK)
	}
	for _, i := range []api.Item{{Tag: 0x30}, {Tag: 0x30, Body: []byte{}}, {Tag: 0x30, Kids: []api.Item{}}, {Tag: 0x30, Body: []byte{}, Kids: []api.Item{{Body: []byte{}}}}} {
		encodeIs(t, i, api.OK)
	}
}

// Rules: what is handed in stays, what lies behind it is neither read nor written, what is answered is new, and no call changes what a later one tells.

// roomy is a list with the same bytes, and others behind its end.
func roomy(b []byte, behind byte) []byte {
	whole := append(slices.Clone(b), bytes.Repeat([]byte{behind}, 64)...)
	return whole[:len(b)]
}

// roomyItem is the same item, with bytes and items behind the ends of all its lists.
func roomyItem(i api.Item, behind byte) api.Item {
	room := api.Item{Tag: i.Tag, Body: roomy(i.Body, behind)}
	for _, kid := range i.Kids {
		room.Kids = append(room.Kids, roomyItem(kid, behind))
	}
	room.Kids = append(room.Kids, api.Item{Tag: behind, Body: []byte{behind}})[:len(i.Kids)]
	return room
}

// stays tells whether an item of roomyItem is as it was, in all its memory.
func stays(room, i api.Item, behind byte) bool {
	want := append(slices.Clone(i.Body), bytes.Repeat([]byte{behind}, 64)...)
	if room.Tag != i.Tag || len(room.Body) != len(i.Body) || !bytes.Equal(room.Body[:len(want)], want) || len(room.Kids) != len(i.Kids) {
		return false
	}
	if last := room.Kids[:len(i.Kids)+1][len(i.Kids)]; last.Tag != behind || !bytes.Equal(last.Body, []byte{behind}) {
		return false
	}
	for n := range i.Kids {
		if !stays(room.Kids[n], i.Kids[n], behind) {
			return false
		}
	}
	return true
}

func TestWhatIsHandedIn(t *testing.T) {
	s := source(5)
	for range 200 {
		i := s.item(5)
		b := packed(i)
		for _, behind := range []byte{0, 0xff, 5} {
			room := roomyItem(i, behind)
			encodeIs(t, room, api.OK)
			if !stays(room, i, behind) {
				t.Fatal("an item was written")
			}
			list := roomy(b, behind)
			decodeIs(t, list, api.OK)
			decodeIs(t, list[:len(b)-1], api.ErrDerEnd)
			if whole := list[:len(b)+64]; !bytes.Equal(whole[:len(b)], b) || !bytes.Equal(whole[len(b):], bytes.Repeat([]byte{behind}, 64)) {
				t.Fatal("a list was written")
			}
		}
	}
}

// fill writes into all the memory of a list of bytes, up to its end.
func fill(b []byte, x byte) {
	b = b[:cap(b)]
	for i := range b {
		b[i] = x
	}
}

// Each list of an answer is its own, whatever is written into the others or into what was handed in.
func TestAnswersAreNew(t *testing.T) {
	s := source(6)
	for range 100 {
		good := s.item(4)
		b := packed(good)
		i, _ := der.Decode(b)
		all, _ := places(&i, 1)
		wanted, _ := places(&good, 1)
		fill(b, 1)
		if !same(i, good) {
			t.Fatal("Decode keeps what it was handed")
		}
		for n, one := range all {
			was := slices.Clone(one.Body)
			fill(one.Body, 2)
			kids := one.Kids[:cap(one.Kids)]
			for k := len(one.Kids); k < len(kids); k++ {
				kids[k] = api.Item{Tag: 0x1f}
			}
			for m, other := range all {
				if m != n && (other.Tag != wanted[m].Tag || !bytes.Equal(other.Body, wanted[m].Body) || len(other.Kids) != len(wanted[m].Kids)) {
					t.Fatal("two lists share memory")
				}
			}
			copy(one.Body, was)
		}
		out, _ := der.Encode(good)
		was := clone(good)
		fill(out, 3)
		if !same(good, was) {
			t.Fatal("Encode's answer is what it was handed")
		}
		out, _ = der.Encode(good)
		wantedBytes := packed(good)
		for _, one := range wanted {
			fill(one.Body, 4)
		}
		if !bytes.Equal(out, wantedBytes) {
			t.Fatal("Encode's answer goes with what it was handed")
		}
	}
}

func TestSameTwice(t *testing.T) {
	s := source(7)
	i := s.item(5)
	b := packed(i)
	for range 3 {
		decodeIs(t, b, api.OK)
		encodeIs(t, i, api.OK)
		decodeIs(t, b[:1], api.ErrDerEnd)
		encodeIs(t, api.Item{Tag: 0x1f}, api.ErrDerTag)
		decodeIs(t, around([]byte{4, 0}, 16), api.ErrDerDeep)
		numberIs(t, api.Item{Tag: 2, Body: []byte{7}}, api.OK)
		numberIs(t, api.Item{Tag: 3}, api.ErrDerTag)
		nameIs(t, api.Item{Tag: 6, Body: []byte{42}}, api.OK)
		nameIs(t, api.Item{Tag: 6}, api.ErrDerValue)
	}
}

// The chapter's examples.
func TestExamples(t *testing.T) {
	i, e := der.Decode([]byte{0x30, 3, 2, 1, 5})
	if !same(i, api.Item{Tag: 0x30, Kids: []api.Item{{Tag: 2, Body: []byte{5}}}}) || e != api.OK {
		t.Error(i, e)
	}
	i, e = der.Decode([]byte{0x30, 0})
	if !same(i, api.Item{Tag: 0x30}) || e != api.OK {
		t.Error(i, e)
	}
	for _, c := range []struct {
		b []byte
		e api.Errno
	}{
		{[]byte{4, 0x81, 5}, api.ErrDerLength}, {[]byte{4, 0x80}, api.ErrDerLength}, {[]byte{2, 1, 5, 0}, api.ErrDerMore},
		{nil, api.ErrDerEnd}, {[]byte{4, 2, 0}, api.ErrDerEnd}, {[]byte{0x1f, 1, 0}, api.ErrDerTag}, {[]byte{4}, api.ErrDerEnd},
	} {
		decodeIs(t, c.b, c.e)
	}
	for _, c := range []struct {
		body []byte
		v    uint64
		e    api.Errno
	}{{[]byte{0, 0x80}, 128, api.OK}, {[]byte{0, 0x7f}, 0, api.ErrDerValue}, {[]byte{0xff}, 0, api.ErrDerValue}} {
		if v, e := der.Uint(api.Item{Tag: 2, Body: c.body}); v != c.v || e != c.e {
			t.Error(c.body, v, e)
		}
	}
	if i := der.OfUint(0); !same(i, api.Item{Tag: 2, Body: []byte{0}}) {
		t.Error(i)
	}
	for _, c := range []struct {
		l    []uint64
		body []byte
		e    api.Errno
	}{{[]uint64{1, 2, 840, 113549}, []byte{0x2a, 0x86, 0x48, 0x86, 0xf7, 0x0d}, api.OK}, {[]uint64{1, 40}, nil, api.ErrDerValue}, {[]uint64{2, 999}, []byte{0x88, 0x37}, api.OK}} {
		i, e := der.OfOID(c.l)
		if !bytes.Equal(i.Body, c.body) || e != c.e {
			t.Error(c.l, i, e)
		}
	}
}
