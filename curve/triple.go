package curve

import (
	"barbican/api"
	"barbican/wide"
)

// A triple is a point with three coordinates: X is x / z^2, and Y is y / z^3. Where z is 0, it is infinity.
// Sums of triples need no division, so that a sum of many points takes one, at its end.
type triple struct {
	x, y, z coordinate
}

// tripleOf is a point of the curve as a triple.
func tripleOf(p api.Point) triple {
	if p == infinity() {
		return triple{}
	}
	return triple{coordinateOf(p.X), coordinateOf(p.Y), coordinateOf(api.Num{1})}
}

// point is a triple as a point.
func (s triple) point() api.Point {
	if s.isInfinity() {
		return infinity()
	}
	w := s.z.inverse()
	square := w.squared()
	return api.Point{X: s.x.times(square).number(), Y: s.y.times(square).times(w).number()}
}

func (s triple) isInfinity() bool { return s.z == coordinate{} }

// plus is a sum.
func (s triple) plus(t triple) triple {
	if s.isInfinity() {
		return t
	}
	if t.isInfinity() {
		return s
	}
	// Over the denominators of both, the points are held against each other by what stands above.
	squareS, squareT := s.z.squared(), t.z.squared()
	xS, xT := s.x.times(squareT), t.x.times(squareS)
	yS, yT := s.y.times(squareT).times(t.z), t.y.times(squareS).times(s.z)
	if xS == xT && yS == yT {
		return s.twice()
	}
	// L is rise / run. With one X and another Y run is 0, and z with it: infinity, as it must be.
	run, rise := xT.minus(xS), yT.minus(yS)
	square := run.squared()
	cube := square.times(run)
	shared := xS.times(square)
	x := rise.squared().minus(cube).minus(shared.doubled())
	y := rise.times(shared.minus(x)).minus(yS.times(cube))
	return triple{x, y, s.z.times(t.z).times(run)}
}

// twice is the sum of a point and itself. The number of all points is odd, so that none has the Y 0, and none but infinity comes to infinity here.
func (s triple) twice() triple {
	squareY, squareZ := s.y.squared(), s.z.squared()
	// L is slope / (2 y z): slope is 3 x^2 - 3 z^4.
	third := s.x.plus(squareZ).times(s.x.minus(squareZ))
	slope := third.doubled().plus(third)
	shared := s.x.times(squareY).doubled().doubled()
	x := slope.squared().minus(shared.doubled())
	y := slope.times(shared.minus(x)).minus(squareY.doubled().squared().doubled())
	return triple{x, y, s.y.times(s.z).doubled()}
}

// multiples is the sum of p u times and q v times.
func multiples(u api.Num, p triple, v api.Num, q triple) triple {
	// Both go down their bits together, so that the sum is doubled once for both.
	addends := [4]triple{1: p, 2: q, 3: p.plus(q)}
	var sum triple
	for i := max(wide.Bits(u), wide.Bits(v)) - 1; i >= 0; i-- {
		sum = sum.twice().plus(addends[wide.Bit(u, i)+2*wide.Bit(v, i)])
	}
	return sum
}
