package quo

import (
	"steelyard/api"
	"steelyard/nat"
)

// headBits keeps a mix's multipliers below 2 to the 31: none is above what its own step leaves of the heads, and the product of these two is not above a head. So a limb's products and a carry fit in an int64.
const headBits = 62

// mix is a sum of multiples of two numbers; where both multipliers are other than 0, one of them is below it.
type mix struct{ a, b int64 }

// Gcd tells the greatest number that divides both a and b; of 0 and another one, that one.
func Gcd(a, b api.Nat) api.Nat {
	a, b = nat.Trim(a), nat.Trim(b)
	if nat.Cmp(a, b) < 0 {
		a, b = b, a
	}
	for len(b) > 0 && len(a) > 2 {
		a, b = nearer(a, b)
	}
	if len(b) == 0 {
		return a
	}
	return nat.Of(gcdSmall(head(a, 0), head(b, 0)))
}

func gcdSmall(a, b uint64) uint64 {
	for b != 0 {
		a, b = b, a%b
	}
	return a
}

// nearer goes on with divisions of a by b, which is not above it, of b by what is left, and so on, and tells the last two numbers.
func nearer(a, b api.Nat) (api.Nat, api.Nat) {
	from := nat.Bits(a) - headBits
	first, second := sure(int64(head(a, from)), int64(head(b, from)))
	if first.b != 0 {
		return first.of(a, b), second.of(a, b)
	}
	// The heads leave the first quotient in doubt.
	_, left, _ := Rem(a, b)
	return b, left
}

// sure tells the last two of those numbers as mixes of the first two, as far as their heads x and y make the quotients certain. It is Lehmer's way: most divisions of long numbers are done on their heads alone, which is many times faster.
func sure(x, y int64) (first, second mix) {
	first, second = mix{1, 0}, mix{0, 1}
	for y+second.a != 0 && y+second.b != 0 {
		// The true quotient is between these two, whatever stands below the heads.
		q := (x + first.a) / (y + second.a)
		if q != (x+first.b)/(y+second.b) {
			break
		}
		first, second = second, mix{first.a - q*second.a, first.b - q*second.b}
		x, y = y, x-q*y
	}
	return first, second
}

// of tells the mix of a and b, which is neither below 0 nor above a.
func (m mix) of(a, b api.Nat) api.Nat {
	out := make(api.Nat, len(a))
	var carry int64
	for i := range out {
		carry += m.a*int64(limbAt(a, i)) + m.b*int64(limbAt(b, i))
		out[i] = uint32(carry)
		carry >>= limbBits
	}
	return nat.Trim(out)
}

// head tells the 64 bits of a that begin with that of 2 to the from.
func head(a api.Nat, from int) uint64 {
	at, skipped := from/limbBits, from%limbBits
	low := limbAt(a, at) | limbAt(a, at+1)<<limbBits
	return low>>skipped | limbAt(a, at+2)<<(2*limbBits-skipped)
}

// limbAt tells a's limb at i, and 0 beyond a's end.
func limbAt(a api.Nat, i int) uint64 {
	if i >= len(a) {
		return 0
	}
	return uint64(a[i])
}
