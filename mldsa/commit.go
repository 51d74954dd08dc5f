package mldsa

import (
	"barbican/api"
	"barbican/pack"
	"barbican/ring"
)

const (
	maxT    = 1<<tBits - 1
	maxHint = 1

	// A key has the upper bits of its polynomials alone: the lower ones were cut away. The greatest one that it may have makes Q - 1 of this, so that all stay plain.
	tUnit = 8192
)

// Commit is the commitment that a signature comes back to.
func Commit(rho [32]byte, t [6]api.Poly, c api.Poly, z [5]api.Poly, h [6]api.Poly) ([6]api.Poly, api.Errno) {
	if !upTo(maxT, t[:]...) || !upTo(ring.Q-1, c) || !upTo(ring.Q-1, z[:]...) {
		return [6]api.Poly{}, api.ErrRingRange
	}
	if !upTo(maxHint, h[:]...) {
		return [6]api.Poly{}, api.ErrPackHint
	}
	rows, e := pack.Matrix(rho[:])
	if e != api.OK {
		return [6]api.Poly{}, e
	}
	for s, p := range z {
		z[s], _ = ring.NTT(p)
	}
	c, _ = ring.NTT(c)
	var w [6]api.Poly
	for r, row := range rows {
		sum := less(sumOf(row, z), c, scaled(t[r]))
		p, _ := ring.Back(sum)
		w[r] = corrected(p, h[r])
	}
	return w, api.OK
}

// upTo tells whether all coefficients are 0 to most.
func upTo(most int32, polynomials ...api.Poly) bool {
	for _, p := range polynomials {
		for _, c := range p {
			if c < 0 || c > most {
				return false
			}
		}
	}
	return true
}

// scaled are the values of a key's polynomial at the height that it was cut at.
func scaled(t api.Poly) api.Poly {
	for i := range t {
		t[i] *= tUnit
	}
	values, _ := ring.NTT(t)
	return values
}

// sumOf is the sum of a row's products, as values.
func sumOf(row, z [5]api.Poly) api.Poly {
	var sum api.Poly
	for s, a := range row {
		product, _ := ring.Times(a, z[s])
		sum, _ = ring.Add(sum, product)
	}
	return sum
}

// less is a sum less a product, as values.
func less(sum, c, t api.Poly) api.Poly {
	product, _ := ring.Times(c, t)
	sum, _ = ring.Sub(sum, product)
	return sum
}

// corrected are the high parts that hints make of a polynomial.
func corrected(p, h api.Poly) api.Poly {
	for i, c := range p {
		p[i], _ = ring.UseHint(h[i] == maxHint, c)
	}
	return p
}
