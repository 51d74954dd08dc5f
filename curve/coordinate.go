package curve

import (
	"barbican/api"
	"barbican/field"
	"barbican/wide"
)

// A coordinate is the form of a number modulo p. All of them are below p, so that field refuses none.
type coordinate api.Num

// below tells whether a number is below p.
func below(x api.Num) bool {
	p, _ := field.Modulus(field.ModP)
	return wide.Cmp(x, p) < 0
}

// coordinateOf is the form of a number.
func coordinateOf(x api.Num) coordinate {
	a, _ := field.In(field.ModP, x)
	return coordinate(a)
}

// number is that of a form.
func (a coordinate) number() api.Num {
	x, _ := field.Out(field.ModP, api.Num(a))
	return x
}

func (a coordinate) plus(b coordinate) coordinate {
	c, _ := field.Add(field.ModP, api.Num(a), api.Num(b))
	return coordinate(c)
}

func (a coordinate) minus(b coordinate) coordinate {
	c, _ := field.Sub(field.ModP, api.Num(a), api.Num(b))
	return coordinate(c)
}

func (a coordinate) times(b coordinate) coordinate {
	c, _ := field.Mul(field.ModP, api.Num(a), api.Num(b))
	return coordinate(c)
}

func (a coordinate) doubled() coordinate { return a.plus(a) }

func (a coordinate) squared() coordinate { return a.times(a) }

// inverse is that of a coordinate that is not 0.
func (a coordinate) inverse() coordinate {
	c, _ := field.Inv(field.ModP, api.Num(a))
	return coordinate(c)
}

// root is the form of the even one of the square roots, if there are any.
func (a coordinate) root() (coordinate, bool) {
	c, ok := field.Root(api.Num(a))
	return coordinate(c), ok
}

// rightSide is what the square of the Y of a point with this X is.
func rightSide(x coordinate) coordinate {
	b := coordinateOf(api.Num{0x3bce3c3e27d2604b, 0x651d06b0cc53b0f6, 0xb3ebbd55769886bc, 0x5ac635d8aa3a93e7})
	threeX := x.doubled().plus(x)
	return x.squared().times(x).minus(threeX).plus(b)
}
