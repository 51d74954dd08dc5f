package der_test

import (
	"bytes"
	"encoding/asn1"
	"math/big"
	"slices"
	"testing"

	"barbican/api"
	"barbican/der"
)

// numberIs looks at Uint, and at OfUint of what it tells.
func numberIs(t *testing.T, i api.Item, want api.Errno) {
	t.Helper()
	v, e := der.Uint(i)
	model, modelError := number(i)
	if v != model || e != modelError || e != want {
		t.Fatalf("%v: %d, %v, not %d, %v (%v)", i, v, e, model, want, modelError)
	}
	if e != api.OK {
		return
	}
	if back := der.OfUint(v); !same(back, i) {
		t.Fatalf("%v: back as %v", i, back)
	}
}

// nameIs looks at OID, and at OfOID of what it tells.
func nameIs(t *testing.T, i api.Item, want api.Errno) {
	t.Helper()
	l, e := der.OID(i)
	model, modelError := nameOf(i)
	if !slices.Equal(l, model) || e != modelError || e != want {
		t.Fatalf("%x, %x: %v, %v, not %v, %v (%v)", i.Tag, i.Body[:min(len(i.Body), 100)], l, e, model, want, modelError)
	}
	if e != api.OK {
		return
	}
	if back, e := der.OfOID(l); e != api.OK || !same(back, i) {
		t.Fatalf("%v: back as %v, %v", i, back, e)
	}
}

// ofNameIs looks at OfOID, and at OID of what it tells.
func ofNameIs(t *testing.T, l []uint64, ok bool) {
	t.Helper()
	i, e := der.OfOID(l)
	body := nameBody(l)
	if ok != (body != nil) {
		t.Fatal("the model says otherwise", l)
	}
	if !ok {
		if e != api.ErrDerValue || !none(i) {
			t.Fatalf("%v: %v, %v", l, i, e)
		}
		return
	}
	if e != api.OK || !same(i, api.Item{Tag: 6, Body: body}) {
		t.Fatalf("%v: %v, %v, not %x", l, i, e, body)
	}
	nameIs(t, i, api.OK)
	if back, _ := der.OID(i); !slices.Equal(back, l) {
		t.Fatalf("%v: back as %v", l, back)
	}
}

// otherItems are those that no call reads that wants the tag: each other tag; and with it an item that has kids.
func otherItems(tag byte, body []byte) ([]api.Item, []api.Item) {
	var l []api.Item
	for other := range 256 {
		if byte(other) != tag {
			l = append(l, api.Item{Tag: byte(other), Body: body}, api.Item{Tag: byte(other)}, api.Item{Tag: byte(other), Body: body, Kids: []api.Item{{}}})
		}
	}
	return l, []api.Item{
		{Tag: tag, Body: body, Kids: []api.Item{{}}}, {Tag: tag, Kids: []api.Item{{Tag: tag, Body: body}}}, {Tag: tag, Body: body, Kids: make([]api.Item, 3)},
	}
}

// P12.1: D3.

// edges are numbers whose forms change there.
func edges() []uint64 {
	l := []uint64{0, 1, 1<<64 - 1, 1<<64 - 2}
	for n := range 64 {
		l = append(l, 1<<n-1, 1<<n, 1<<n+1, 1<<64-1-1<<n)
	}
	return l
}

func TestOfUint(t *testing.T) {
	s := source(11)
	l := edges()
	for range 2000 {
		l = append(l, s.next()>>s.below(64))
	}
	for _, v := range l {
		i := der.OfUint(v)
		want, err := asn1.Marshal(new(big.Int).SetUint64(v))
		if err != nil {
			t.Fatal(err)
		}
		if b, e := der.Encode(i); e != api.OK || !bytes.Equal(b, want) || len(i.Kids) != 0 {
			t.Fatalf("%d: %x, %v, not %x", v, b, e, want)
		}
		if back, e := der.Uint(i); back != v || e != api.OK {
			t.Fatalf("%d: back as %d, %v", v, back, e)
		}
		numberIs(t, i, api.OK)
		// The same number with a byte more.
		numberIs(t, api.Item{Tag: 2, Body: append([]byte{0}, i.Body...)}, api.ErrDerValue)
	}
}

func TestUint(t *testing.T) {
	look := func(b ...byte) {
		t.Helper()
		i := api.Item{Tag: 2, Body: b}
		_, want := number(i)
		numberIs(t, i, want)
	}
	look()
	for a := range 256 {
		look(byte(a))
		for b := range 256 {
			look(byte(a), byte(b))
			// All lengths, with each first byte and second one that matter.
			for n := range 12 {
				look(append([]byte{byte(a), byte(b)}, bytes.Repeat([]byte{byte(a ^ b)}, n)...)...)
			}
		}
	}
	for _, c := range []struct {
		b []byte
		v uint64
		e api.Errno
	}{
		{nil, 0, api.ErrDerValue}, {[]byte{0}, 0, api.OK}, {[]byte{0x7f}, 127, api.OK}, {[]byte{0x80}, 0, api.ErrDerValue}, {[]byte{0, 0}, 0, api.ErrDerValue}, {[]byte{1, 0}, 256, api.OK},
		{[]byte{0x7f, 1, 2, 3, 4, 5, 6, 7}, 0x7f01020304050607, api.OK}, {[]byte{0, 0x80, 0, 0, 0, 0, 0, 0, 0}, 1 << 63, api.OK}, {[]byte{1, 0, 0, 0, 0, 0, 0, 0, 0}, 0, api.ErrDerValue},
		{append([]byte{0}, bytes.Repeat([]byte{0xff}, 8)...), 1<<64 - 1, api.OK}, {append([]byte{0}, bytes.Repeat([]byte{0xff}, 9)...), 0, api.ErrDerValue}, {make([]byte, 9), 0, api.ErrDerValue},
		{bytes.Repeat([]byte{1}, 1<<16), 0, api.ErrDerValue},
	} {
		if v, e := der.Uint(api.Item{Tag: 2, Body: c.b}); v != c.v || e != c.e {
			t.Errorf("%x: %d, %v", c.b[:min(len(c.b), 12)], v, e)
		}
	}
}

func TestUintOfOthers(t *testing.T) {
	for _, body := range [][]byte{nil, {5}, {0xff}, {0, 1}} {
		tags, kids := otherItems(2, body)
		for _, i := range tags {
			numberIs(t, i, api.ErrDerTag)
		}
		for _, i := range kids {
			numberIs(t, i, api.ErrDerValue)
		}
	}
	numberIs(t, api.Item{Tag: 2, Body: []byte{5}, Kids: []api.Item{}}, api.OK)
}

func TestBool(t *testing.T) {
	is := func(i api.Item, v bool, want api.Errno) {
		t.Helper()
		if got, e := der.Bool(i); got != v || e != want {
			t.Fatalf("%v: %v, %v", i, got, e)
		}
	}
	for a := range 256 {
		want := api.ErrDerValue
		if a == 0 || a == 255 {
			want = api.OK
		}
		is(api.Item{Tag: 1, Body: []byte{byte(a)}}, a == 255, want)
		for b := range 256 {
			is(api.Item{Tag: 1, Body: []byte{byte(a), byte(b)}}, false, api.ErrDerValue)
		}
	}
	is(api.Item{Tag: 1}, false, api.ErrDerValue)
	is(api.Item{Tag: 1, Body: []byte{0xff}, Kids: []api.Item{}}, true, api.OK)
	for _, body := range [][]byte{nil, {0}, {0xff}, {1}, {0xff, 0xff}} {
		tags, kids := otherItems(1, body)
		for _, i := range tags {
			is(i, false, api.ErrDerTag)
		}
		for _, i := range kids {
			is(i, false, api.ErrDerValue)
		}
	}
	for _, v := range []bool{false, true} {
		i := der.OfBool(v)
		want, err := asn1.Marshal(v)
		if err != nil {
			t.Fatal(err)
		}
		if b, e := der.Encode(i); !bytes.Equal(b, want) || e != api.OK {
			t.Errorf("%v: %x, %v", v, b, e)
		}
		is(i, v, api.OK)
	}
}

// P12.1: D4.

func TestOfOID(t *testing.T) {
	long := func(n int, v uint64) []uint64 { return append([]uint64{1, 2}, slices.Repeat([]uint64{v}, n-2)...) }
	for n := 2; n < 24; n++ {
		for _, v := range []uint64{0, 127, 128, 1<<32 - 1} {
			ofNameIs(t, long(n, v), n <= 20)
		}
		for _, v := range []uint64{1 << 32, 1<<64 - 1} {
			ofNameIs(t, long(n, v), n == 2)
		}
	}
	ofNameIs(t, nil, false)
	ofNameIs(t, []uint64{}, false)
	for first := range uint64(5) {
		ofNameIs(t, []uint64{first}, false)
		for second := range uint64(300) {
			ofNameIs(t, []uint64{first, second}, first < 2 && second < 40 || first == 2)
			ofNameIs(t, []uint64{first, second, 7}, first < 2 && second < 40 || first == 2)
		}
		for _, second := range []uint64{1<<32 - 81, 1<<32 - 80, 1<<32 - 1, 1 << 32, 1<<64 - 80, 1<<64 - 41, 1<<64 - 40, 1<<64 - 1} {
			ofNameIs(t, []uint64{first, second}, first == 2 && second < 1<<32-80)
			ofNameIs(t, []uint64{first, second, 1}, first == 2 && second < 1<<32-80)
		}
	}
	for _, v := range edges() {
		ofNameIs(t, []uint64{1, 2, v}, v < 1<<32)
		ofNameIs(t, []uint64{2, 39, 5, v, 6}, v < 1<<32)
		ofNameIs(t, []uint64{2, v}, v < 1<<32-80)
		ofNameIs(t, []uint64{v, 3}, v < 3)
	}
	ofNameIs(t, make([]uint64, 1<<16), false)
}

// What the library makes of names, whose numbers are below 2^31 there.
func TestOfOIDAsTheLibrary(t *testing.T) {
	s := source(12)
	for range 3000 {
		l := []uint64{uint64(s.below(3)), uint64(s.below(40))}
		for range s.below(19) {
			l = append(l, s.next()>>33>>s.below(31))
		}
		var name asn1.ObjectIdentifier
		for _, v := range l {
			name = append(name, int(v))
		}
		want, err := asn1.Marshal(name)
		if err != nil {
			t.Fatal(err)
		}
		i, e := der.OfOID(l)
		if b, encoding := der.Encode(i); e != api.OK || encoding != api.OK || !bytes.Equal(b, want) {
			t.Fatalf("%v: %x, %v, not %x", l, b, e, want)
		}
		ofNameIs(t, l, true)
	}
}

func TestOID(t *testing.T) {
	count := map[api.Errno]int{}
	look := func(b []byte) {
		t.Helper()
		i := api.Item{Tag: 6, Body: b}
		_, want := nameOf(i)
		nameIs(t, i, want)
		count[want]++
	}
	look(nil)
	for a := range 256 {
		look([]byte{byte(a)})
		for b := range 256 {
			look([]byte{byte(a), byte(b)})
			look([]byte{42, byte(a), byte(b)})
			look([]byte{byte(a), byte(b), 1})
		}
	}
	s := source(13)
	for range 50000 {
		b := s.bytes(s.below(24))
		for n := range b {
			if s.below(3) == 0 {
				b[n] = []byte{0, 1, 0x7f, 0x80, 0x81, 0x8f, 0x90, 0xff}[s.below(8)]
			}
		}
		look(b)
	}
	if count[api.OK] < 1000 || count[api.ErrDerValue] < 1000 {
		t.Error(count)
	}
}

func TestOIDEdges(t *testing.T) {
	is := func(b []byte, want api.Errno) {
		t.Helper()
		nameIs(t, api.Item{Tag: 6, Body: b}, want)
	}
	most, above := []byte{0x8f, 0xff, 0xff, 0xff, 0x7f}, []byte{0x90, 0x80, 0x80, 0x80, 0}
	for _, ahead := range [][]byte{nil, {0}, {42}, {39, 5}, {0x88, 0x37}} {
		is(slices.Concat(ahead, most), api.OK)
		is(slices.Concat(ahead, above), api.ErrDerValue)
		is(slices.Concat(ahead, most[:4]), api.ErrDerValue)
		is(slices.Concat(ahead, []byte{0x80}, most), api.ErrDerValue)
		is(slices.Concat(ahead, []byte{0x80, 1}), api.ErrDerValue)
		is(slices.Concat(ahead, []byte{0x81, 0x80, 0}), api.OK)
		is(slices.Concat(ahead, []byte{0x81}), api.ErrDerValue)
		// Groups whose upper bits are lost in a number of 64 bits, or of 32.
		is(slices.Concat(ahead, []byte{0x82}, bytes.Repeat([]byte{0x80}, 8), []byte{5}), api.ErrDerValue)
		is(slices.Concat(ahead, []byte{0x90, 0x80, 0x80, 0x80, 5}), api.ErrDerValue)
		is(slices.Concat(ahead, bytes.Repeat([]byte{0xff}, 1<<16)), api.ErrDerValue)
	}
	for n := range 24 {
		want := api.ErrDerValue
		if n >= 1 && n <= 19 {
			want = api.OK
		}
		is(bytes.Repeat([]byte{1}, n), want)
		is(bytes.Repeat(most, n), want)
	}
	is(bytes.Repeat([]byte{1}, 1<<20), api.ErrDerValue)
	for _, c := range []struct {
		b []byte
		l []uint64
	}{
		{[]byte{0}, []uint64{0, 0}}, {[]byte{39}, []uint64{0, 39}}, {[]byte{40}, []uint64{1, 0}}, {[]byte{79}, []uint64{1, 39}}, {[]byte{80}, []uint64{2, 0}}, {[]byte{119}, []uint64{2, 39}},
		{[]byte{120}, []uint64{2, 40}}, {[]byte{0x7f}, []uint64{2, 47}}, {[]byte{0x81, 0}, []uint64{2, 48}}, {most, []uint64{2, 1<<32 - 81}},
	} {
		if l, e := der.OID(api.Item{Tag: 6, Body: c.b}); !slices.Equal(l, c.l) || e != api.OK {
			t.Errorf("%x: %v, %v", c.b, l, e)
		}
	}
	for _, body := range [][]byte{nil, {42}, {42, 5}, {0x80}} {
		tags, kids := otherItems(6, body)
		for _, i := range tags {
			nameIs(t, i, api.ErrDerTag)
		}
		for _, i := range kids {
			nameIs(t, i, api.ErrDerValue)
		}
	}
	nameIs(t, api.Item{Tag: 6, Body: []byte{42}, Kids: []api.Item{}}, api.OK)
}

// bitsIs looks at Bits, and at OfBits of what it tells.
func bitsIs(t *testing.T, i api.Item, want api.Errno) {
	t.Helper()
	b, e := der.Bits(i)
	if e != want || e != api.OK && len(b) != 0 {
		t.Fatalf("%v: %x, %v", i, b, e)
	}
	if e != api.OK {
		return
	}
	if !bytes.Equal(b, i.Body[1:]) {
		t.Fatalf("%v: %x", i, b)
	}
	if back := der.OfBits(b); !same(back, i) {
		t.Fatalf("%v: back as %v", i, back)
	}
}

func TestBits(t *testing.T) {
	s := source(14)
	bitsIs(t, api.Item{Tag: 3}, api.ErrDerValue)
	for first := range 256 {
		want := api.ErrDerValue
		if first == 0 {
			want = api.OK
		}
		for _, n := range []int{0, 1, 2, 2017, 3373, 1 << 17} {
			if n == 1<<17 && first > 1 {
				continue
			}
			bitsIs(t, api.Item{Tag: 3, Body: append([]byte{byte(first)}, s.bytes(n)...)}, want)
			bitsIs(t, api.Item{Tag: 3, Body: append([]byte{byte(first)}, make([]byte, n)...)}, want)
		}
	}
	for _, body := range [][]byte{nil, {0}, {0, 1}, {1, 0}} {
		tags, kids := otherItems(3, body)
		for _, i := range tags {
			bitsIs(t, i, api.ErrDerTag)
		}
		for _, i := range kids {
			bitsIs(t, i, api.ErrDerValue)
		}
	}
	bitsIs(t, api.Item{Tag: 3, Body: []byte{0, 7}, Kids: []api.Item{}}, api.OK)
	for _, n := range []int{0, 1, 5, 126, 127, 128, 1000} {
		b := s.bytes(n)
		want, err := asn1.Marshal(asn1.BitString{Bytes: b, BitLength: 8 * n})
		if err != nil {
			t.Fatal(err)
		}
		if got, e := der.Encode(der.OfBits(b)); !bytes.Equal(got, want) || e != api.OK {
			t.Errorf("%d: %x, %v", n, got, e)
		}
		if back, e := der.Bits(der.OfBits(b)); !bytes.Equal(back, b) || e != api.OK {
			t.Errorf("%d: %x, %v", n, back, e)
		}
	}
}

// Rules 2 and 4 of these calls.

func TestValuesHandedIn(t *testing.T) {
	for _, behind := range []byte{0, 0xff, 5} {
		for _, i := range []api.Item{{Tag: 2, Body: []byte{1, 2}}, {Tag: 1, Body: []byte{0xff}}, {Tag: 6, Body: []byte{42, 3}}, {Tag: 3, Body: []byte{0, 9, 8}}, {Tag: 6, Body: []byte{42, 0x83}}, {Tag: 2}, {Tag: 3}} {
			room := roomyItem(i, behind)
			_, wanted := number(i)
			numberIs(t, room, wanted)
			_, wanted = nameOf(i)
			nameIs(t, room, wanted)
			if v, e := der.Bool(room); v != (i.Tag == 1) || (e == api.OK) != (i.Tag == 1) {
				t.Error(v, e)
			}
			if b, e := der.Bits(room); (e == api.OK) != (len(i.Body) > 0 && i.Tag == 3) || e == api.OK && !bytes.Equal(b, []byte{9, 8}) {
				t.Error(b, e)
			}
			if !stays(room, i, behind) {
				t.Error("an item was written")
			}
		}
		list := roomy([]byte{7, 8}, behind)
		if i := der.OfBits(list); !bytes.Equal(i.Body, []byte{0, 7, 8}) || !bytes.Equal(list[:66], append([]byte{7, 8}, bytes.Repeat([]byte{behind}, 64)...)) {
			t.Error(i)
		}
		for _, numbers := range [][]uint64{{1, 2, 3, 4}, {1, 40, 3, 4}, {1, 2, 1 << 32, 4}} {
			whole := append(slices.Clone(numbers), uint64(behind), uint64(behind))
			_, e := der.OfOID(whole[:3])
			if want := nameBody(numbers[:3]); (e == api.OK) != (want != nil) || !slices.Equal(whole[:4], numbers) || whole[4] != uint64(behind) || whole[5] != uint64(behind) {
				t.Error(whole, e)
			}
		}
	}
}

func TestValuesAreNew(t *testing.T) {
	given := []byte{0, 9, 8}
	b, _ := der.Bits(api.Item{Tag: 3, Body: given})
	fill(b, 1)
	if !bytes.Equal(given, []byte{0, 9, 8}) {
		t.Error("Bits' answer is what it was handed")
	}
	b, _ = der.Bits(api.Item{Tag: 3, Body: given})
	fill(given, 2)
	if !bytes.Equal(b, []byte{9, 8}) {
		t.Error("Bits' answer goes with what it was handed")
	}
	given = []byte{7, 6}
	i := der.OfBits(given)
	fill(i.Body, 3)
	if !bytes.Equal(given, []byte{7, 6}) {
		t.Error("OfBits' answer is what it was handed")
	}
	// No two answers share memory, and no later one hangs on what was written into an earlier one.
	for _, of := range []func() api.Item{
		func() api.Item { return der.OfBool(true) }, func() api.Item { return der.OfBool(false) }, func() api.Item { return der.OfUint(0) },
		func() api.Item { return der.OfBits(nil) }, func() api.Item { i, _ := der.OfOID([]uint64{1, 2, 3}); return i },
	} {
		first, second := of(), of()
		was := clone(second)
		fill(first.Body, 0x55)
		if !same(second, was) || !same(of(), was) {
			t.Error(first, second, of())
		}
	}
	l := []uint64{1, 2, 3}
	named, _ := der.OfOID(l)
	back, _ := der.OID(named)
	back[2] = 9
	if again, _ := der.OID(named); !slices.Equal(again, l) {
		t.Error(again)
	}
}
