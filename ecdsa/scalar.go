package ecdsa

import (
	"barbican/api"
	"barbican/field"
	"barbican/wide"
)

// A scalar is the form of a number modulo n. All of them are below n, so that field refuses none.
type scalar api.Num

// scalarOf is the form of a number.
func scalarOf(x api.Num) scalar {
	a, _ := field.In(field.ModN, x)
	return scalar(a)
}

// number is that of a form.
func (a scalar) number() api.Num {
	x, _ := field.Out(field.ModN, api.Num(a))
	return x
}

func (a scalar) times(b scalar) scalar {
	c, _ := field.Mul(field.ModN, api.Num(a), api.Num(b))
	return scalar(c)
}

// inverse is that of a scalar that is not 0.
func (a scalar) inverse() scalar {
	c, _ := field.Inv(field.ModN, api.Num(a))
	return scalar(c)
}

// numberOf is the number of its bytes.
func numberOf(b [numBytes]byte) api.Num {
	x, _ := wide.Of(b[:])
	return x
}

// modN is a number less n, if it is n or more. It is below n then, since twice n is more than 2^256.
func modN(x api.Num) api.Num {
	n, _ := field.Modulus(field.ModN)
	less, borrowed := wide.Sub(x, n)
	if borrowed == 1 {
		return x
	}
	return less
}

// refusal is what field says of a number that has no inverse as it stands: it is 0, or n or more.
func refusal(x api.Num) api.Errno {
	if x == (api.Num{}) {
		return api.ErrFieldZero
	}
	_, e := field.Out(field.ModN, x)
	return e
}
