package pack

import (
	"bytes"
	"crypto/sha3"
	"slices"
	"testing"

	"barbican/api"
	"barbican/keccak"
	"barbican/ring"
)

// No seed is known that gives out too few bytes that are of use: what is drawn from is handed in here.

// outOf gives these bytes, and then nothing.
func outOf(b []byte) func() (byte, bool) {
	return func() (byte, bool) {
		if len(b) == 0 {
			return 0, false
		}
		x := b[0]
		b = b[1:]
		return x, true
	}
}

func drawn(t *testing.T, p api.Poly, e api.Errno, want api.Poly) {
	t.Helper()
	if p != want || e != api.OK {
		t.Fatalf("%v, %v, not %v", p, e, want)
	}
}

func tooLong(t *testing.T, p api.Poly, e api.Errno) {
	t.Helper()
	if p != (api.Poly{}) || e != api.ErrPackLong {
		t.Fatalf("%v, %v", p, e)
	}
}

func TestBytesOf(t *testing.T) {
	seed := []byte("a seed")
	for _, c := range []struct {
		kind int
		all  []byte
	}{
		{keccak.Shake128, sha3.SumSHAKE128(seed, 6048)},
		{keccak.Shake256, sha3.SumSHAKE256(seed, 6048)},
	} {
		for _, most := range []int{0, 1, 8, 167, 168, 169, 336, 1008, 2000, 6048} {
			next := bytesOf(c.kind, seed, most)
			for i := range most {
				if b, ok := next(); b != c.all[i] || !ok {
					t.Fatal(c.kind, most, i, b, ok)
				}
			}
			for range 3 {
				if b, ok := next(); b != 0 || ok {
					t.Fatal(c.kind, most, b, ok)
				}
			}
		}
	}
}

// How many bytes there are at most: the numbers of the chapter.
func TestMost(t *testing.T) {
	if uniformBytes != 6048 || smallBytes != 2000 || signBytes != 8 || ballBytes != 1000 {
		t.Error(uniformBytes, smallBytes, signBytes, ballBytes)
	}
}

// three are the bytes of a number.
func three(n int) []byte { return []byte{byte(n), byte(n >> 8), byte(n >> 16)} }

func TestBelowQ(t *testing.T) {
	var b []byte
	var want api.Poly
	for i := range want {
		if i%3 == 0 {
			b = append(b, three(ring.Q)...)
			b = append(b, three(1<<23-1)...)
		}
		n := []int{0, ring.Q - 1, 1, 0x123456, 0xff, 0xff00, 0x7e0000}[i%7]
		// The uppermost bit counts for nothing.
		b = append(b, three(n|i%2<<23)...)
		want[i] = int32(n)
	}
	p, e := filled(belowQ(outOf(b)))
	drawn(t, p, e, want)
	for _, n := range []int{0, 1, 2, 3, 300, len(b) - 1, len(b) - 2, len(b) - 3} {
		p, e := filled(belowQ(outOf(b[:n])))
		tooLong(t, p, e)
	}
	p, e = filled(belowQ(outOf(slices.Repeat(three(ring.Q), 6048/3))))
	tooLong(t, p, e)
}

func TestNearNought(t *testing.T) {
	var b []byte
	var want api.Poly
	for i := range 128 {
		low, high := byte(i%9), byte(i/9%9)
		// Numbers of 9 and more count for nothing, in either half.
		b = append(b, 0x9f, low|high<<4, 0xf9)
		want[2*i] = (4 - int32(low) + ring.Q) % ring.Q
		want[2*i+1] = (4 - int32(high) + ring.Q) % ring.Q
	}
	p, e := filled(nearNought(outOf(b)))
	drawn(t, p, e, want)
	for _, n := range []int{0, 1, 2, 3, 300, len(b) - 2} {
		p, e := filled(nearNought(outOf(b[:n])))
		tooLong(t, p, e)
	}
	p, e = filled(nearNought(outOf(bytes.Repeat([]byte{0x9a}, 2000))))
	tooLong(t, p, e)
}

// Of a byte whose lower half is the last coefficient, the upper one is not asked for any more; half bytes that are too great stand by themselves.
func TestNearNoughtByHalves(t *testing.T) {
	b := append([]byte{0x8f}, bytes.Repeat([]byte{0x80}, 127)...)
	b = append(b, 0xf4)
	want := api.Poly{}
	for i := range want {
		want[i] = 4
		if i%2 == 0 {
			want[i] = ring.Q - 4
		}
	}
	want[255] = 0
	p, e := filled(nearNought(outOf(b)))
	drawn(t, p, e, want)
	p, e = filled(nearNought(outOf(b[:128])))
	tooLong(t, p, e)
}

func TestThrown(t *testing.T) {
	signs := bytes.Repeat([]byte{0xff}, 8)
	places := make([]byte, 49)
	for i := range places {
		places[i] = byte(i)
	}
	var want api.Poly
	for i := range places {
		want[i] = ring.Q - 1
	}
	p, e := thrown(outOf(append(signs, places...)))
	drawn(t, p, e, want)
	for n := range 49 {
		p, e := thrown(outOf(append(slices.Clone(signs), places[:n]...)))
		tooLong(t, p, e)
	}
	for n := range 8 {
		p, e := thrown(outOf(signs[:n]))
		tooLong(t, p, e)
	}
}

// Each place is taken for itself: what is greater than it counts for nothing, what is as great stays there.
func TestThrownOntoThemselves(t *testing.T) {
	b := []byte{0x55, 0x55, 0x55, 0x55, 0x55, 0x55, 0x55, 0x55}
	var want api.Poly
	for i := 207; i <= 255; i++ {
		if i < 255 {
			b = append(b, byte(i+1), 255)
		}
		b = append(b, byte(i))
		want[i] = 1
		if (i-207)%2 == 0 {
			want[i] = ring.Q - 1
		}
	}
	p, e := thrown(outOf(b))
	drawn(t, p, e, want)
	p, e = thrown(outOf(b[:len(b)-1]))
	tooLong(t, p, e)
}

// What stood at a place goes to the one that it is thrown for.
func TestThrownOntoOnePlace(t *testing.T) {
	for sign := range 49 {
		b := make([]byte, 8+49)
		b[sign/8] = 1 << (sign % 8)
		var want api.Poly
		want[0] = 1
		for i := 208; i <= 255; i++ {
			want[i] = 1
		}
		// The one with the sign is thrown on 0 for 207 + sign, and driven on by the next one.
		if sign == 48 {
			want[0] = ring.Q - 1
		} else {
			want[207+sign+1] = ring.Q - 1
		}
		p, e := thrown(outOf(b))
		drawn(t, p, e, want)
	}
}
