package octets_test

import (
	"bytes"
	"hash/crc32"
	"math"
	"math/big"
	"strconv"
	"strings"
	"testing"

	"barbican/api"
	"barbican/octets"
)

var (
	sizes  = []int{1, 2, 4, 8}
	orders = []bool{false, true}
)

// sampleNumbers are 0, 2^64 - 1, and the neighbours of each power of two.
func sampleNumbers() []uint64 {
	list := []uint64{0, 0x0123456789abcdef, 0xfedcba9876543210}
	for bit := range 64 {
		p := uint64(1) << bit
		list = append(list, p-1, p, p+1, -p, -p-1)
	}
	return list
}

// sampleBytes are n bytes that follow no short pattern, the same ones in each run.
func sampleBytes(n int) []byte {
	b := make([]byte, n)
	state := uint32(1)
	for i := range b {
		state = state*1664525 + 1013904223
		b[i] = byte(state >> 24)
	}
	return b
}

func whole(v uint64) *big.Int {
	return new(big.Int).SetUint64(v)
}

func powerOfTwo(bits int) *big.Int {
	return new(big.Int).Lsh(big.NewInt(1), uint(bits))
}

// P1.1, O1: Get.

func TestGet(t *testing.T) {
	b := []byte{0x81, 2, 3, 4, 5, 6, 7, 0xf8, 9}
	for _, c := range []struct {
		at, size int
		big      bool
		want     uint64
	}{
		{0, 1, false, 0x81},
		{0, 1, true, 0x81},
		{8, 1, false, 9},
		{1, 2, false, 0x0302},
		{1, 2, true, 0x0203},
		{7, 2, false, 0x09f8},
		{7, 2, true, 0xf809},
		{4, 4, false, 0xf8070605},
		{4, 4, true, 0x050607f8},
		{5, 4, true, 0x0607f809},
		{0, 8, false, 0xf807060504030281},
		{0, 8, true, 0x81020304050607f8},
		{1, 8, false, 0x09f8070605040302},
	} {
		if v, e := octets.Get(b, c.at, c.size, c.big); v != c.want || e != api.OK {
			t.Errorf("%v: %#x, %v", c, v, e)
		}
	}
}

// refusedPlaces are places and sizes in four bytes with what is answered there.
var refusedPlaces = []struct {
	at, size int
	want     api.Errno
}{
	{0, 0, api.ErrArg},
	{0, 3, api.ErrArg},
	{1, 3, api.ErrArg},
	{0, 5, api.ErrArg},
	{0, 6, api.ErrArg},
	{0, 7, api.ErrArg},
	{0, 9, api.ErrArg},
	{0, 16, api.ErrArg},
	{0, -1, api.ErrArg},
	{0, -8, api.ErrArg},
	{0, math.MaxInt, api.ErrArg},
	{0, math.MinInt, api.ErrArg},
	{-1, 3, api.ErrArg}, // the size is named first
	{9, 0, api.ErrArg},
	{-1, 1, api.ErrOctetsEnd},
	{-1, 8, api.ErrOctetsEnd},
	{-4, 4, api.ErrOctetsEnd},
	{math.MinInt, 8, api.ErrOctetsEnd},
	{4, 1, api.ErrOctetsEnd},
	{3, 2, api.ErrOctetsEnd},
	{1, 4, api.ErrOctetsEnd},
	{0, 8, api.ErrOctetsEnd},
	{5, 1, api.ErrOctetsEnd},
	{math.MaxInt, 1, api.ErrOctetsEnd},
	{math.MaxInt - 7, 8, api.ErrOctetsEnd},
}

func TestGetRefuses(t *testing.T) {
	for _, c := range refusedPlaces {
		for _, order := range orders {
			if v, e := octets.Get([]byte{1, 2, 3, 4}, c.at, c.size, order); v != 0 || e != c.want {
				t.Errorf("%v: %d, %v", c, v, e)
			}
		}
	}
	if v, e := octets.Get(nil, 0, 1, false); v != 0 || e != api.ErrOctetsEnd {
		t.Error(v, e)
	}
}

func TestGetStopsAtTheLength(t *testing.T) {
	b := []byte{1, 2, 3, 4}
	if v, e := octets.Get(b[:3], 2, 2, false); v != 0 || e != api.ErrOctetsEnd {
		t.Error(v, e)
	}
}

// P1.1, O1: Put.

func TestPut(t *testing.T) {
	b := []byte{0xa0, 0xa1, 0xa2, 0xa3, 0xa4, 0xa5, 0xa6, 0xa7, 0xa8}
	for _, c := range []struct {
		at, size int
		big      bool
		v        uint64
		want     string
	}{
		{0, 1, false, 0xff, "ffa1a2a3a4a5a6a7a8"},
		{8, 1, true, 0, "a0a1a2a3a4a5a6a700"},
		{1, 2, false, 0x1234, "a03412a3a4a5a6a7a8"},
		{1, 2, true, 0x1234, "a01234a3a4a5a6a7a8"},
		{7, 2, true, 0xffff, "a0a1a2a3a4a5a6ffff"},
		{3, 4, false, 0x12345678, "a0a1a278563412a7a8"},
		{3, 4, true, 0x12, "a0a1a200000012a7a8"},
		{1, 8, false, 0x0102030405060708, "a00807060504030201"},
		{0, 8, true, 0x0102030405060708, "0102030405060708a8"},
		{1, 8, true, math.MaxUint64, "a0ffffffffffffffff"},
	} {
		if l, e := octets.Put(b, c.at, c.size, c.big, c.v); octets.Hex(l) != c.want || e != api.OK {
			t.Errorf("%v: %x, %v", c, l, e)
		}
	}
}

func TestPutRefuses(t *testing.T) {
	for _, c := range refusedPlaces {
		for _, order := range orders {
			// Such a number has room in 8 bytes alone: the place is named ahead of it.
			if l, e := octets.Put([]byte{1, 2, 3, 4}, c.at, c.size, order, math.MaxUint64); len(l) != 0 || e != c.want {
				t.Errorf("%v: %x, %v", c, l, e)
			}
		}
	}
	if l, e := octets.Put(nil, 0, 1, false, 0); len(l) != 0 || e != api.ErrOctetsEnd {
		t.Error(l, e)
	}
}

func TestPutRange(t *testing.T) {
	b := sampleBytes(8)
	for _, size := range sizes {
		for _, order := range orders {
			for _, v := range sampleNumbers() {
				want := api.OK
				if whole(v).Cmp(powerOfTwo(8*size)) >= 0 {
					want = api.ErrOctetsRange
				}
				l, e := octets.Put(b, 0, size, order, v)
				if e != want || (e != api.OK && len(l) != 0) {
					t.Errorf("%d, %#x: %x, %v", size, v, l, e)
				}
			}
		}
	}
}

func TestPutAnswersNewMemory(t *testing.T) {
	under := []byte{1, 2, 3, 4, 5, 6}
	b := under[:4]
	l, e := octets.Put(b, 0, 2, false, 0x0908)
	if e != api.OK || !bytes.Equal(under, []byte{1, 2, 3, 4, 5, 6}) {
		t.Fatal(l, e, under)
	}
	_ = append(l, 7)
	l[3] = 9
	if !bytes.Equal(under, []byte{1, 2, 3, 4, 5, 6}) {
		t.Error("written into", under)
	}
	b[2] = 77
	if !bytes.Equal(l, []byte{8, 9, 3, 9}) {
		t.Error("kept", l)
	}
	if l, e := octets.Put(under[:3], 2, 2, false, 0); len(l) != 0 || e != api.ErrOctetsEnd {
		t.Error("behind the length", l, e)
	}
}

// P1.2: Get and Put.

func TestGetOfPut(t *testing.T) {
	const length = 11
	b := sampleBytes(length)
	for _, size := range sizes {
		for _, order := range orders {
			for at := 0; at+size <= length; at++ {
				for _, v := range sampleNumbers() {
					checkLaidDown(t, b, at, size, order, v>>(64-8*size))
				}
			}
		}
	}
}

func checkLaidDown(t *testing.T, b []byte, at, size int, order bool, v uint64) {
	l, e := octets.Put(b, at, size, order, v)
	if e != api.OK || len(l) != len(b) {
		t.Fatalf("Put %d, %d, %#x: %x, %v", at, size, v, l, e)
	}
	if got, e := octets.Get(l, at, size, order); got != v || e != api.OK {
		t.Errorf("Get %d, %d, %#x: %#x, %v", at, size, v, got, e)
	}
	if !bytes.Equal(l[:at], b[:at]) || !bytes.Equal(l[at+size:], b[at+size:]) {
		t.Errorf("Put %d, %d, %#x changed other bytes: %x of %x", at, size, v, l, b)
	}
}

func TestPutOfGet(t *testing.T) {
	b := sampleBytes(11)
	for _, size := range sizes {
		for _, order := range orders {
			for at := 0; at+size <= len(b); at++ {
				v, e := octets.Get(b, at, size, order)
				if e != api.OK {
					t.Fatal(at, size, e)
				}
				if l, e := octets.Put(make([]byte, size), 0, size, order, v); !bytes.Equal(l, b[at:at+size]) || e != api.OK {
					t.Errorf("%d, %d: %x, %v", at, size, l, e)
				}
			}
		}
	}
}

// P1.1, O2.

func TestFits(t *testing.T) {
	const most = math.MaxUint64
	for _, c := range []struct {
		from, size, limit uint64
		want              bool
	}{
		{0, 0, 0, true},
		{0, 1, 0, false},
		{1, 0, 0, false},
		{3, 2, 5, true},
		{3, 3, 5, false},
		{5, 0, 5, true},
		{6, 0, 5, false},
		{0, 5, 5, true},
		{0, 6, 5, false},
		{most, 0, most, true},
		{0, most, most, true},
		{most, 1, most, false},
		{1, most, most, false},
		{most, 1, 0, false},
		{most, 2, 1, false},
		{most, most, most, false},
		{most, most, most - 1, false},
		{1 << 63, 1 << 63, most, false},
		{1 << 63, 1 << 63, 0, false},
		{1 << 63, 1<<63 - 1, most, true},
	} {
		if got := octets.Fits(c.from, c.size, c.limit); got != c.want {
			t.Errorf("%v: %v", c, got)
		}
	}
}

func TestFitsIsOfWholeNumbers(t *testing.T) {
	list := []uint64{0, 1, 2, 1<<32 - 1, 1 << 32, 1<<63 - 1, 1 << 63, 1<<63 + 1, math.MaxUint64 - 1, math.MaxUint64}
	for _, from := range list {
		for _, size := range list {
			for _, limit := range list {
				sum := new(big.Int).Add(whole(from), whole(size))
				if got := octets.Fits(from, size, limit); got != (sum.Cmp(whole(limit)) <= 0) {
					t.Errorf("%d, %d, %d: %v", from, size, limit, got)
				}
			}
		}
	}
}

func TestUp(t *testing.T) {
	const most = math.MaxUint64
	for _, c := range []struct {
		v, a, want uint64
		e          api.Errno
	}{
		{5, 4, 8, api.OK},
		{8, 4, 8, api.OK},
		{9, 4, 12, api.OK},
		{0, 1, 0, api.OK},
		{0, 1 << 63, 0, api.OK},
		{1, 1 << 63, 1 << 63, api.OK},
		{1 << 63, 1 << 63, 1 << 63, api.OK},
		{1<<63 + 1, 1 << 63, 0, api.ErrOctetsRange},
		{most, 1, most, api.OK},
		{most, 2, 0, api.ErrOctetsRange},
		{most, 1 << 63, 0, api.ErrOctetsRange},
		{most - 1, 2, most - 1, api.OK},
		{most - 3, 4, most - 3, api.OK},
		{most - 2, 4, 0, api.ErrOctetsRange},
		{0, 0, 0, api.ErrArg},
		{7, 0, 0, api.ErrArg},
		{most, 0, 0, api.ErrArg},
		{0, 3, 0, api.ErrArg},
		{0, 6, 0, api.ErrArg},
		{most, 3, 0, api.ErrArg}, // a is named first
		{0, most, 0, api.ErrArg},
		{0, 1<<63 + 1, 0, api.ErrArg},
	} {
		if v, e := octets.Up(c.v, c.a); v != c.want || e != c.e {
			t.Errorf("%v: %d, %v", c, v, e)
		}
	}
}

func TestUpIsTheLeastMultiple(t *testing.T) {
	for _, v := range sampleNumbers() {
		for bit := range 64 {
			a := uint64(1) << bit
			multiple := new(big.Int).Add(whole(v), whole(a-1))
			multiple.Div(multiple, whole(a)).Mul(multiple, whole(a))
			want := api.OK
			if !multiple.IsUint64() {
				want, multiple = api.ErrOctetsRange, new(big.Int)
			}
			if got, e := octets.Up(v, a); got != multiple.Uint64() || e != want {
				t.Errorf("%d, %d: %d, %v", v, a, got, e)
			}
		}
	}
}

func TestUpRefusesOthersThanPowers(t *testing.T) {
	for a := range uint64(1025) {
		want := api.ErrArg
		for bit := range 11 {
			if a == 1<<bit {
				want = api.OK
			}
		}
		if v, e := octets.Up(0, a); v != 0 || e != want {
			t.Errorf("%d: %d, %v", a, v, e)
		}
	}
}

func TestCut(t *testing.T) {
	const most = math.MaxUint64
	b := []byte{1, 2, 3}
	for _, c := range []struct {
		from, size uint64
		want       string
		e          api.Errno
	}{
		{0, 0, "", api.OK},
		{0, 3, "\x01\x02\x03", api.OK},
		{1, 2, "\x02\x03", api.OK},
		{2, 1, "\x03", api.OK},
		{3, 0, "", api.OK},
		{4, 0, "", api.ErrOctetsEnd},
		{3, 1, "", api.ErrOctetsEnd},
		{0, 4, "", api.ErrOctetsEnd},
		{2, 2, "", api.ErrOctetsEnd},
		{2, most, "", api.ErrOctetsEnd},
		{most, 1, "", api.ErrOctetsEnd},
		{most, 2, "", api.ErrOctetsEnd},
		{most, 0, "", api.ErrOctetsEnd},
		{0, most, "", api.ErrOctetsEnd},
		{most - 1, 4, "", api.ErrOctetsEnd},
		{1 << 63, 1 << 63, "", api.ErrOctetsEnd},
	} {
		if l, e := octets.Cut(b, c.from, c.size); string(l) != c.want || e != c.e {
			t.Errorf("%d, %d: %x, %v", c.from, c.size, l, e)
		}
	}
	if l, e := octets.Cut(nil, 0, 0); len(l) != 0 || e != api.OK {
		t.Error(l, e)
	}
	if l, e := octets.Cut(nil, 0, 1); len(l) != 0 || e != api.ErrOctetsEnd {
		t.Error(l, e)
	}
}

func TestCutAnswersNewMemory(t *testing.T) {
	under := []byte{1, 2, 3, 4, 5, 6}
	l, e := octets.Cut(under[:4], 1, 2)
	if e != api.OK {
		t.Fatal(e)
	}
	_ = append(l, 99)
	l[0] = 99
	if !bytes.Equal(under, []byte{1, 2, 3, 4, 5, 6}) {
		t.Error("written into", under)
	}
	under[2] = 77
	if !bytes.Equal(l, []byte{99, 3}) {
		t.Error("kept", l)
	}
	if l, e := octets.Cut(under[:4], 3, 2); len(l) != 0 || e != api.ErrOctetsEnd {
		t.Error("behind the length", l, e)
	}
}

// P1.1, O3.

func TestCRC(t *testing.T) {
	for _, c := range []struct {
		sum  uint32
		text string
		want uint32
	}{
		{0, "", 0},
		{7, "", 7},
		{math.MaxUint32, "", math.MaxUint32},
		{0, "123456789", 0xCBF43926},
		{0, "a", 0xE8B7BE43},
		{0, "\x00", 0xD202EF8D},
		{0, "\xff", 0xFF000000},
		{0, "\x80", 0x3FBA6CAD},
		{0, "The quick brown fox jumps over the lazy dog", 0x414FA339},
		{math.MaxUint32, "\x00", math.MaxUint32},          // the register stays 0
		{math.MaxUint32, "\x80", 0xEDB88320 ^ 0xFFFFFFFF}, // the register becomes the polynomial
	} {
		if got := octets.CRC(c.sum, []byte(c.text)); got != c.want {
			t.Errorf("%#x, %q: %#x", c.sum, c.text, got)
		}
	}
	if octets.CRC(7, nil) != 7 {
		t.Error("of no list")
	}
}

func TestCRCOfManyLists(t *testing.T) {
	b := sampleBytes(4096)
	for n := range 300 {
		if got, want := octets.CRC(0, b[:n]), crc32.ChecksumIEEE(b[:n]); got != want {
			t.Errorf("%d bytes: %#x, not %#x", n, got, want)
		}
	}
	for _, sum := range []uint32{0, 1, 0xCBF43926, 1 << 31, math.MaxUint32} {
		if got, want := octets.CRC(sum, b), crc32.Update(sum, crc32.IEEETable, b); got != want {
			t.Errorf("%#x: %#x, not %#x", sum, got, want)
		}
	}
}

func TestCRCDoesNotWrite(t *testing.T) {
	b := sampleBytes(32)
	octets.CRC(0, b)
	if !bytes.Equal(b, sampleBytes(32)) {
		t.Error(b)
	}
}

// P1.3.

func TestCRCOfParts(t *testing.T) {
	b := sampleBytes(24)
	for _, sum := range []uint32{0, 1, math.MaxUint32} {
		want := octets.CRC(sum, b)
		for i := range len(b) + 1 {
			for j := i; j <= len(b); j++ {
				got := octets.CRC(octets.CRC(octets.CRC(sum, b[:i]), b[i:j]), b[j:])
				if got != want {
					t.Errorf("%#x, parts at %d and %d: %#x, not %#x", sum, i, j, got, want)
				}
			}
		}
	}
}

func TestCRCTellsAChangedByte(t *testing.T) {
	b := sampleBytes(40)
	sum := octets.CRC(0, b)
	for i := range b {
		was := b[i]
		for change := 1; change < 256; change++ {
			b[i] = was ^ byte(change)
			if octets.CRC(0, b) == sum {
				t.Errorf("byte %d as %#x", i, b[i])
			}
		}
		b[i] = was
	}
}

// P1.1, O4.

var wrongWidths = []int{0, -1, -64, 65, 128, math.MaxInt, math.MinInt}

func TestSign(t *testing.T) {
	for _, c := range []struct {
		v    uint64
		bits int
		want int64
		e    api.Errno
	}{
		{0, 1, 0, api.OK},
		{1, 1, -1, api.OK},
		{2, 1, 0, api.ErrOctetsRange},
		{127, 8, 127, api.OK},
		{128, 8, -128, api.OK},
		{255, 8, -1, api.OK},
		{256, 8, 0, api.ErrOctetsRange},
		{math.MaxUint64, 8, 0, api.ErrOctetsRange},
		{1<<31 - 1, 32, math.MaxInt32, api.OK},
		{1 << 31, 32, math.MinInt32, api.OK},
		{1<<62 - 1, 63, 1<<62 - 1, api.OK},
		{1 << 62, 63, -1 << 62, api.OK},
		{1<<63 - 1, 63, -1, api.OK},
		{1 << 63, 63, 0, api.ErrOctetsRange},
		{math.MaxUint64, 63, 0, api.ErrOctetsRange},
		{0, 64, 0, api.OK},
		{math.MaxInt64, 64, math.MaxInt64, api.OK},
		{1 << 63, 64, math.MinInt64, api.OK},
		{math.MaxUint64, 64, -1, api.OK},
	} {
		if v, e := octets.Sign(c.v, c.bits); v != c.want || e != c.e {
			t.Errorf("%v: %d, %v", c, v, e)
		}
	}
}

func TestNarrow(t *testing.T) {
	for _, c := range []struct {
		v    int64
		bits int
		want uint64
		e    api.Errno
	}{
		{0, 1, 0, api.OK},
		{-1, 1, 1, api.OK},
		{1, 1, 0, api.ErrOctetsRange},
		{-2, 1, 0, api.ErrOctetsRange},
		{-1, 4, 15, api.OK},
		{7, 4, 7, api.OK},
		{8, 4, 0, api.ErrOctetsRange},
		{-8, 4, 8, api.OK},
		{-9, 4, 0, api.ErrOctetsRange},
		{math.MaxInt64, 4, 0, api.ErrOctetsRange},
		{math.MinInt64, 4, 0, api.ErrOctetsRange},
		{math.MinInt32, 32, 1 << 31, api.OK},
		{math.MinInt32 - 1, 32, 0, api.ErrOctetsRange},
		{1<<62 - 1, 63, 1<<62 - 1, api.OK},
		{1 << 62, 63, 0, api.ErrOctetsRange},
		{-1 << 62, 63, 1 << 62, api.OK},
		{-1<<62 - 1, 63, 0, api.ErrOctetsRange},
		{-1, 63, 1<<63 - 1, api.OK},
		{math.MinInt64, 63, 0, api.ErrOctetsRange},
		{math.MaxInt64, 64, math.MaxInt64, api.OK},
		{math.MinInt64, 64, 1 << 63, api.OK},
		{-1, 64, math.MaxUint64, api.OK},
	} {
		if v, e := octets.Narrow(c.v, c.bits); v != c.want || e != c.e {
			t.Errorf("%v: %d, %v", c, v, e)
		}
	}
}

func TestWrongWidths(t *testing.T) {
	for _, bits := range wrongWidths {
		for _, v := range sampleNumbers() {
			if got, e := octets.Sign(v, bits); got != 0 || e != api.ErrArg {
				t.Errorf("Sign %d, %d: %d, %v", v, bits, got, e)
			}
			if got, e := octets.Narrow(int64(v), bits); got != 0 || e != api.ErrArg {
				t.Errorf("Narrow %d, %d: %d, %v", int64(v), bits, got, e)
			}
		}
	}
}

// P1.2: Sign and Narrow, in all widths, held against whole numbers.

func TestSignAndBack(t *testing.T) {
	for bits := 1; bits <= 64; bits++ {
		for _, v := range sampleNumbers() {
			want, wantErr := whole(v), api.OK
			if want.Cmp(powerOfTwo(bits)) >= 0 {
				want, wantErr = new(big.Int), api.ErrOctetsRange
			} else if want.Bit(bits-1) == 1 {
				want.Sub(want, powerOfTwo(bits))
			}
			signed, e := octets.Sign(v, bits)
			if big.NewInt(signed).Cmp(want) != 0 || e != wantErr {
				t.Errorf("Sign %d, %d: %d, %v", v, bits, signed, e)
			}
			if e != api.OK {
				continue
			}
			if back, e := octets.Narrow(signed, bits); back != v || e != api.OK {
				t.Errorf("Narrow of Sign %d, %d: %d, %v", v, bits, back, e)
			}
		}
	}
}

func TestNarrowAndBack(t *testing.T) {
	for bits := 1; bits <= 64; bits++ {
		limit := powerOfTwo(bits - 1)
		least := new(big.Int).Neg(limit)
		for _, u := range sampleNumbers() {
			v := int64(u)
			want, wantErr := big.NewInt(v), api.OK
			if want.Cmp(least) < 0 || want.Cmp(limit) >= 0 {
				want, wantErr = new(big.Int), api.ErrOctetsRange
			} else if v < 0 {
				want.Add(want, powerOfTwo(bits))
			}
			narrow, e := octets.Narrow(v, bits)
			if whole(narrow).Cmp(want) != 0 || e != wantErr {
				t.Errorf("Narrow %d, %d: %d, %v", v, bits, narrow, e)
			}
			if e != api.OK {
				continue
			}
			if back, e := octets.Sign(narrow, bits); back != v || e != api.OK {
				t.Errorf("Sign of Narrow %d, %d: %d, %v", v, bits, back, e)
			}
		}
	}
}

// P1.1, O5.

func TestHex(t *testing.T) {
	for _, c := range []struct {
		b    []byte
		want string
	}{
		{nil, ""},
		{[]byte{}, ""},
		{[]byte{0}, "00"},
		{[]byte{0, 0xab}, "00ab"},
		{[]byte{0xf0, 0x0f, 0xff}, "f00fff"},
		{[]byte{0x01, 0x23, 0x45, 0x67, 0x89, 0xab, 0xcd, 0xef}, "0123456789abcdef"},
	} {
		if got := octets.Hex(c.b); got != c.want {
			t.Errorf("%x: %s", c.b, got)
		}
	}
}

func TestFromHex(t *testing.T) {
	for _, c := range []struct{ s, want string }{
		{"", ""},
		{"00", "\x00"},
		{"00ab", "\x00\xab"},
		{"0123456789abcdef", "\x01\x23\x45\x67\x89\xab\xcd\xef"},
		{"f00fff", "\xf0\x0f\xff"},
	} {
		if l, e := octets.FromHex(c.s); string(l) != c.want || e != api.OK {
			t.Errorf("%s: %x, %v", c.s, l, e)
		}
	}
}

func TestFromHexRefuses(t *testing.T) {
	for _, s := range []string{
		"0", "000", "0g", "g0", "0A", "A0", "FF", "aB", " 0", "0 ", "0x00", "-1", "+1", "00\n", "\n\n",
		"0011zz22", "zz", "001122g3", "00:1", "é", "½0", "\x00\x00", "\xff\xff", "00112", strings.Repeat("0", 1001),
	} {
		if l, e := octets.FromHex(s); len(l) != 0 || e != api.ErrOctetsForm {
			t.Errorf("%q: %x, %v", s, l, e)
		}
	}
}

// P1.2: Hex and FromHex.

func TestFromHexOfEachPair(t *testing.T) {
	for high := range 256 {
		for low := range 256 {
			s := string([]byte{byte(high), byte(low)})
			isText := strings.IndexByte("0123456789abcdef", s[0]) >= 0 && strings.IndexByte("0123456789abcdef", s[1]) >= 0
			l, e := octets.FromHex(s)
			if isText && (e != api.OK || octets.Hex(l) != s) {
				t.Errorf("%q: %x, %v", s, l, e)
			}
			if !isText && (e != api.ErrOctetsForm || len(l) != 0) {
				t.Errorf("%q: %x, %v", s, l, e)
			}
		}
	}
}

func TestHexAndBack(t *testing.T) {
	for value := range 256 {
		b := []byte{byte(value)}
		if l, e := octets.FromHex(octets.Hex(b)); !bytes.Equal(l, b) || e != api.OK {
			t.Errorf("%x: %x, %v", b, l, e)
		}
	}
	for _, n := range []int{0, 1, 2, 3, 255, 256, 1000} {
		b := sampleBytes(n)
		if l, e := octets.FromHex(octets.Hex(b)); !bytes.Equal(l, b) || e != api.OK {
			t.Errorf("%d bytes: %x, %v", n, l, e)
		}
		if !bytes.Equal(b, sampleBytes(n)) {
			t.Error("written into", n)
		}
	}
}

// P2: the same arguments in other memory, and again, with other calls between them.

func TestAnswersHangOnArgumentsAlone(t *testing.T) {
	tell := func(b []byte) string {
		got, _ := octets.Get(b, 1, 8, true)
		put, _ := octets.Put(b, 2, 4, false, 5)
		cut, _ := octets.Cut(b, 3, 6)
		l, _ := octets.FromHex(octets.Hex(b))
		sum := octets.CRC(3, b)
		return strconv.FormatUint(got, 10) + " " + strconv.FormatUint(uint64(sum), 10) + " " +
			octets.Hex(put) + " " + octets.Hex(cut) + " " + octets.Hex(l)
	}
	small := sampleBytes(16)
	spacious := append(make([]byte, 0, 100), small...)
	first := tell(small)
	tell(sampleBytes(99))
	if tell(spacious) != first || tell(small) != first {
		t.Error("another answer")
	}
}

// The chapter's examples.

func TestExamples(t *testing.T) {
	b := []byte{1, 2, 3, 4}
	if v, e := octets.Get(b, 1, 2, false); v != 0x0302 || e != api.OK {
		t.Error(v, e)
	}
	if v, e := octets.Get(b, 1, 2, true); v != 0x0203 || e != api.OK {
		t.Error(v, e)
	}
	if v, e := octets.Get(b, 1, 3, false); v != 0 || e != api.ErrArg {
		t.Error(v, e)
	}
	if v, e := octets.Get(b, 3, 2, false); v != 0 || e != api.ErrOctetsEnd {
		t.Error(v, e)
	}
	if l, e := octets.Put([]byte{1, 2}, 0, 1, false, 256); len(l) != 0 || e != api.ErrOctetsRange {
		t.Error(l, e)
	}
	if octets.Fits(math.MaxUint64, 1, math.MaxUint64) {
		t.Error("Fits")
	}
	if v, e := octets.Up(5, 4); v != 8 || e != api.OK {
		t.Error(v, e)
	}
	if v, e := octets.Up(math.MaxUint64, 2); v != 0 || e != api.ErrOctetsRange {
		t.Error(v, e)
	}
	if v, e := octets.Up(0, 3); v != 0 || e != api.ErrArg {
		t.Error(v, e)
	}
	if v := octets.CRC(0, []byte("123456789")); v != 0xCBF43926 {
		t.Errorf("%#x", v)
	}
	if v, e := octets.Sign(255, 8); v != -1 || e != api.OK {
		t.Error(v, e)
	}
	if v, e := octets.Sign(256, 8); v != 0 || e != api.ErrOctetsRange {
		t.Error(v, e)
	}
	if v, e := octets.Narrow(-1, 4); v != 15 || e != api.OK {
		t.Error(v, e)
	}
	if v, e := octets.Narrow(8, 4); v != 0 || e != api.ErrOctetsRange {
		t.Error(v, e)
	}
}
