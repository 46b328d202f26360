package unit_test

import (
	"math/big"
	"testing"

	"steelyard/api"
	"steelyard/unit"
)

// What a machine has read last: nothing of a piece yet, a name, a blank behind it, a "^", a "-" behind that, digits, or all of a piece.
const (
	ahead = iota
	inName
	behindName
	inPower
	behindMinus
	inDigits
	behindPiece
)

// end is what stands behind the last byte.
const end = -1

// machine reads a unit's text byte by byte, as the document tells it, and reckons with the library.
type machine struct {
	known         map[string]measure
	s             string
	state         int
	begin, digits int
	minus, by     bool
	size          int
	piece, sum    measure
}

// reading tells what s comes to.
func reading(known map[string]measure, s string) (measure, api.Fault) {
	if len(s) > mostBytes {
		return measure{}, api.Fault{E: api.ErrLimit}
	}
	m := machine{known: known, s: s, sum: measure{frac("1"), api.Dim{}}}
	for at := 0; at <= len(s); at++ {
		c := end
		if at < len(s) {
			c = int(s[at])
		}
		if f := m.step(c, at); f != (api.Fault{}) {
			return measure{}, f
		}
	}
	return m.sum, api.Fault{}
}

func letter(c int) bool { return c >= 'a' && c <= 'z' || c >= 'A' && c <= 'Z' }

func figure(c int) bool { return c >= '0' && c <= '9' }

// step takes the byte at that place, or the end.
func (m *machine) step(c, at int) api.Fault {
	wrong := api.Fault{E: api.ErrSyntax, At: at}
	switch m.state {
	case ahead:
		return m.first(c, at)
	case inName:
		if letter(c) || figure(c) || c == '_' {
			if at-m.begin == api.MaxName {
				return wrong
			}
			return api.Fault{}
		}
		piece, ok := m.known[m.s[m.begin:at]]
		if !ok {
			return api.Fault{E: api.ErrUnit, At: m.begin}
		}
		m.piece, m.state = piece, behindName
		return m.step(c, at)
	case behindName:
		return m.behind(c, at)
	case inPower, behindMinus:
		switch {
		case c == ' ':
		case c == '-' && m.state == inPower:
			m.minus, m.state = true, behindMinus
		case figure(c):
			m.size, m.digits, m.state = c-'0', 1, inDigits
		default:
			return wrong
		}
		return api.Fault{}
	case inDigits:
		if figure(c) {
			if m.digits == 3 {
				return wrong
			}
			m.size, m.digits = 10*m.size+c-'0', m.digits+1
			return api.Fault{}
		}
		return m.close(c, at)
	}
	switch c {
	case ' ', end:
	case '*', '/':
		m.by, m.state = c == '/', ahead
	default:
		return wrong
	}
	return api.Fault{}
}

// first takes a byte ahead of a piece.
func (m *machine) first(c, at int) api.Fault {
	switch {
	case c == ' ':
	case c == '1':
		m.state = behindPiece
	case letter(c):
		m.begin, m.state = at, inName
	default:
		return api.Fault{E: api.ErrSyntax, At: at}
	}
	return api.Fault{}
}

// behind takes a byte behind a name.
func (m *machine) behind(c, at int) api.Fault {
	m.minus, m.size = false, 1
	switch c {
	case ' ':
	case '^':
		m.state = inPower
	default:
		return m.close(c, at)
	}
	return api.Fault{}
}

// close takes the piece that ends ahead of c to the sum, and then c.
func (m *machine) close(c, at int) api.Fault {
	power, ok := m.piece.to(m.size)
	if ok && m.minus != m.by {
		power = measure{inverse(power.factor), minus(power.dim)}
	}
	if ok {
		m.sum, ok = m.sum.times(power)
	}
	if !ok || m.size > api.MaxPower {
		return api.Fault{E: api.ErrLimit, At: m.begin}
	}
	m.state = behindPiece
	return m.step(c, at)
}

// to tells m to the n, which is not below 0, if that may be.
func (m measure) to(n int) (measure, bool) {
	out := measure{frac("1"), api.Dim{}}
	for range n {
		next, ok := out.times(m)
		if !ok {
			return measure{}, false
		}
		out = next
	}
	return out, true
}

// times tells the product of both, if that may be.
func (m measure) times(o measure) (measure, bool) {
	out := measure{new(big.Rat).Mul(m.factor, o.factor), m.dim}
	for i, exponent := range o.dim {
		out.dim[i] += exponent
		if out.dim[i] > api.MaxExp || out.dim[i] < -api.MaxExp {
			return measure{}, false
		}
	}
	return out, max(out.factor.Num().BitLen(), out.factor.Denom().BitLen()) <= mostBits
}

// check holds what Parse answers against the machine's reading.
func check(t *testing.T, x *unit.Table, known map[string]measure, s string) {
	t.Helper()
	want, f := reading(known, s)
	if f != (api.Fault{}) {
		wantFault(t, x, s, f.E, f.At)
		return
	}
	wantText(t, x, s, want.unit())
}
