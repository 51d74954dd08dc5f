package pack

import (
	"bytes"

	"barbican/api"
)

const (
	maxHints  = 55
	hintBytes = maxHints + 6
)

// Hints is six polynomials of hints as bytes.
func Hints(h [6]api.Poly) ([]byte, api.Errno) {
	b := make([]byte, hintBytes)
	many := 0
	for i, p := range h {
		for place, c := range p {
			if c == 0 {
				continue
			}
			if c != 1 || many == maxHints {
				return nil, api.ErrPackHint
			}
			b[many] = byte(place)
			many++
		}
		b[maxHints+i] = byte(many)
	}
	return b, api.OK
}

// FromHints is the hints of such bytes.
func FromHints(b []byte) ([6]api.Poly, api.Errno) {
	if len(b) != hintBytes {
		return [6]api.Poly{}, api.ErrPackForm
	}
	h := hintsAt(b)
	// Ends that cut no pieces, places that do not rise, and what stands in the stead of noughts, are lost on the way.
	if again, _ := Hints(h); !bytes.Equal(again, b) {
		return [6]api.Poly{}, api.ErrPackHint
	}
	return h, api.OK
}

// hintsAt are the hints at the places that bytes tell, in whatever order they do, as far as the ends cut pieces.
func hintsAt(b []byte) [6]api.Poly {
	var h [6]api.Poly
	begin := 0
	for i := range h {
		end := int(b[maxHints+i])
		if end < begin || end > maxHints {
			break
		}
		for _, place := range b[begin:end] {
			h[i][place] = 1
		}
		begin = end
	}
	return h
}
