package unit

import (
	"steelyard/api"
	"steelyard/dim"
	"steelyard/power"
	"steelyard/rat"
)

const (
	mostBytes = 200
	// mostDigits is how many digits an exponent has at most.
	mostDigits = 3
)

// reader is a unit's text, how far it was read, and the product of all pieces that were.
type reader struct {
	units   map[string]api.Unit
	text    string
	at      int
	product api.Unit
}

// Parse tells the unit that s is the text of; ErrArg of nil, ErrLimit, if s is too long, or else the first fault.
func (t *Table) Parse(s string) (api.Unit, api.Fault) {
	switch {
	case t == nil:
		return api.Unit{}, api.Fault{E: api.ErrArg}
	case len(s) > mostBytes:
		return api.Unit{}, api.Fault{E: api.ErrLimit}
	}
	r := reader{units: t.known(), text: s, product: of(1, 0, api.Dim{})}
	if f := r.pieces(); f.E != api.OK {
		return api.Unit{}, f
	}
	return r.product, api.Fault{}
}

// pieces reads all that there is.
func (r *reader) pieces() api.Fault {
	direction := 1
	for {
		if f := r.piece(direction); f.E != api.OK {
			return f
		}
		r.skipBlanks()
		switch {
		case r.at == len(r.text):
			return api.Fault{}
		case r.take('*'):
			direction = 1
		case r.take('/'):
			direction = -1
		default:
			return r.noText()
		}
	}
}

// piece reads a piece and its exponent, and multiplies by it, or, where the direction is -1, divides by it.
func (r *reader) piece(direction int) api.Fault {
	r.skipBlanks()
	if r.take('1') {
		return api.Fault{}
	}
	begin := r.at
	name, f := r.name()
	if f.E != api.OK {
		return f
	}
	u, ok := r.units[name]
	if !ok {
		return api.Fault{E: api.ErrUnit, At: begin}
	}
	n, f := r.exponent()
	if f.E != api.OK {
		return f
	}
	if max(n, -n) > api.MaxPower || !r.multiply(u, direction*n) {
		return api.Fault{E: api.ErrLimit, At: begin}
	}
	return api.Fault{}
}

// name reads a name.
func (r *reader) name() (string, api.Fault) {
	begin, n := r.at, nameLength(r.text[r.at:])
	r.at += min(n, api.MaxName)
	if n == 0 || n > api.MaxName {
		return "", r.noText()
	}
	return r.text[begin:r.at], api.Fault{}
}

// exponent reads "^" and what stands behind it; without it the exponent is 1.
func (r *reader) exponent() (int, api.Fault) {
	r.skipBlanks()
	if !r.take('^') {
		return 1, api.Fault{}
	}
	r.skipBlanks()
	direction := 1
	if r.take('-') {
		direction = -1
	}
	r.skipBlanks()
	n, f := r.digits()
	return direction * n, f
}

// digits reads digits.
func (r *reader) digits() (int, api.Fault) {
	begin, n := r.at, 0
	for r.at < len(r.text) && isDigit(r.text[r.at]) {
		if r.at-begin == mostDigits {
			return 0, r.noText()
		}
		n = 10*n + int(r.text[r.at]-'0')
		r.at++
	}
	if r.at == begin {
		return 0, r.noText()
	}
	return n, api.Fault{}
}

// multiply takes u to the n into the product; false, if that power, or the product, may not be. What divides comes with -n: of a power and of 1 by it both may be, or none.
func (r *reader) multiply(u api.Unit, n int) bool {
	factor, e := power.Of(u.Factor, n)
	if e == api.OK {
		r.product.Factor, e = rat.Mul(r.product.Factor, factor)
	}
	if e != api.OK {
		return false
	}
	exponents, e := dim.Pow(u.Dim, n)
	if e == api.OK {
		r.product.Dim, e = dim.Mul(r.product.Dim, exponents)
	}
	return e == api.OK
}

func (r *reader) skipBlanks() {
	for r.take(' ') {
	}
}

// take reads c, if it stands there.
func (r *reader) take(c byte) bool {
	if r.at == len(r.text) || r.text[r.at] != c {
		return false
	}
	r.at++
	return true
}

// noText tells that the text is none from here on.
func (r *reader) noText() api.Fault {
	return api.Fault{E: api.ErrSyntax, At: r.at}
}
