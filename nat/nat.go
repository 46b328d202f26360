// Package nat is layer 1: whole numbers from 0 on, as limbs of 32 bits.
package nat

import (
	"math/bits"

	"steelyard/api"
)

const limbBits = 32

// Of tells v.
func Of(v uint64) api.Nat {
	return Trim(api.Nat{uint32(v), uint32(v >> limbBits)})
}

// Trim tells a without the limbs of 0 at its end.
func Trim(a api.Nat) api.Nat {
	return copied(cut(a), 0)
}

// Cmp tells -1, 0 or 1: a below, as, above b.
func Cmp(a, b api.Nat) int {
	a, b = cut(a), cut(b)
	if len(a) != len(b) {
		return order(len(a) < len(b))
	}
	for i := len(a) - 1; i >= 0; i-- {
		if a[i] != b[i] {
			return order(a[i] < b[i])
		}
	}
	return 0
}

// Add tells the sum of a and b.
func Add(a, b api.Nat) api.Nat {
	long, short := cut(a), cut(b)
	if len(long) < len(short) {
		long, short = short, long
	}
	sum := copied(long, 1)
	var carry uint32
	for i, limb := range short {
		sum[i], carry = bits.Add32(sum[i], limb, carry)
	}
	for i := len(short); i < len(sum) && carry != 0; i++ {
		sum[i], carry = bits.Add32(sum[i], 0, carry)
	}
	if carry != 0 {
		sum = append(sum, carry)
	}
	return sum
}

// Sub tells a less b; false, if b is above a.
func Sub(a, b api.Nat) (api.Nat, bool) {
	a, b = cut(a), cut(b)
	if c := Cmp(a, b); c <= 0 {
		return nil, c == 0
	}
	left := copied(a, 0)
	var borrow uint32
	for i, limb := range b {
		left[i], borrow = bits.Sub32(left[i], limb, borrow)
	}
	// A borrow ends inside left, because b is below a.
	for i := len(b); borrow != 0; i++ {
		left[i], borrow = bits.Sub32(left[i], 0, borrow)
	}
	return cut(left), true
}

// Bits tells how many bits a has; 0 has none.
func Bits(a api.Nat) int {
	a = cut(a)
	if len(a) == 0 {
		return 0
	}
	top := len(a) - 1
	return top*limbBits + bits.Len32(a[top])
}

// Bit tells the bit of 2 to the i; false below the lowest and beyond the highest.
func Bit(a api.Nat, i int) bool {
	if i < 0 || i/limbBits >= len(a) {
		return false
	}
	return a[i/limbBits]>>(i%limbBits)&1 == 1
}

func order(below bool) int {
	if below {
		return -1
	}
	return 1
}

// cut tells the part of a that counts; it shares a's memory.
func cut(a api.Nat) api.Nat {
	n := len(a)
	for n > 0 && a[n-1] == 0 {
		n--
	}
	return a[:n]
}

// copied tells a in new memory, with room for so many limbs more.
func copied(a api.Nat, room int) api.Nat {
	if len(a) == 0 {
		return nil
	}
	out := make(api.Nat, len(a), len(a)+room)
	copy(out, a)
	return out
}
